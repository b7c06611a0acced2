/- Contract of ckpt's cut, for every text: its bytes as the fields of a sector, or the panic; no memory that was there is changed. -/
import Derived.Test.YtdnkhjikfdalbaaCpB
import Derived.Deep.WholeRow
import Derived.Deep.MidRow
import Derived.Laws.BytesArg
import Derived.StillTailTactics
namespace Go.Proofs.Ytdnkhjikfdalbaa
open Go.RowKit Go.Lib Wd Cr
set_option linter.unusedVariables false

/-- A block's cells, none of them frozen. -/
def Blk (w : World) (g : Nat) (t : TypeId) (cs : Array Value) : Prop := w.heap[g]? = some (.cells cs t (0, 0))
section
variable {w w' : World} {g : Nat} {t : TypeId} {cs : Array Value}
theorem Blk.lt (h : Blk w g t cs) : g < w.heap.size := (Array.getElem?_eq_some_iff.1 h).1
theorem Blk.cell (h : Blk w g t cs) (i : Nat) : w.cell? ⟨g, i, none⟩ = cs[i]? := cell_of_row w g i cs t (0, 0) h
theorem Blk.new (w : World) (t : TypeId) (cs : Array Value) : Blk (w.alloc (.cells cs t)) w.heap.size t cs := heap_alloc_last w _
theorem Blk.later (h : Blk w g t cs) (hb : Below w.heap.size w w') : Blk w' g t cs := (hb.block g h.lt).trans h
theorem Blk.row (h : Blk w g t cs) (ds : Array Value) : Blk (w.setRow g ds) g t ds := by
  unfold Blk at h ⊢
  unfold World.setRow
  rw [Array.getElem?_modify, if_pos rfl, h]
  rfl
theorem Blk.far (h : Blk w g t cs) {g' : Nat} (hg : g' ≠ g) (ds : Array Value) : Blk (w.setRow g' ds) g t cs := by
  unfold Blk at h ⊢
  unfold World.setRow
  rw [Array.getElem?_modify, if_neg hg, h]
theorem Blk.range (h : Blk w g t cs) (o : Nat) (l : List Value) (hl : ∀ j v, l[j]? = some v → cs[o + j]? = some v) : w.rangeAt g o l := fun j v hv => by
  rw [h.cell]; exact hl j v hv
theorem row_size (w : World) (g : Nat) (ds : Array Value) : (w.setRow g ds).heap.size = w.heap.size := by unfold World.setRow; simp
theorem below_row {n : Nat} {w0 : World} (hb : Below n w0 w) (hg : n ≤ g) (ds : Array Value) : Below n w0 (w.setRow g ds) :=
  ⟨hb.os, hb.tape, hb.output, by rw [row_size]; exact hb.size, fun b hbn => by
    unfold World.setRow
    rw [Array.getElem?_modify, if_neg (by omega)]
    exact hb.block b hbn⟩
end

/-- A sector's cells, all zero. -/
def z128 : Array Value := (List.replicate 128 (Value.int .u8 0)).toArray
/-- The first i bytes of l in a sector's cells, zeros behind. -/
def rowB (l : List UInt8) (i : Nat) : Array Value := (byteCells (l.take i) ++ List.replicate (128 - i) (Value.int .u8 0)).toArray
theorem rowB_zero (l : List UInt8) : rowB l 0 = z128 := by
  unfold rowB z128
  simp [byteCells]
theorem rowB_size (l : List UInt8) (i : Nat) (hl : l.length = 128) (hi : i ≤ 128) : (rowB l i).size = 128 := by
  unfold rowB
  simp [byteCells_length, hl]
  omega
theorem zero_fields : (∀ w, (zeroValue 69).run Try.prog w = .ok (.agg z128) w) ∧ (Try.prog.info? 69).map (·.size) = some 128 := by
  have h : (Try.prog.info? 69).map (fun i => (i.zero, i.size)) = some (some (.agg z128), 128) := by kernel_rfl
  exact zero_of_info h

theorem copy_at (W : World) (g : Nat) (t : TypeId) (l : List UInt8) (off n : Nat) (rest : ByteArray) (hB : Blk W g t (rowB l off)) (hl : l.length = 128) (hr : rest.data.toList = l.drop off) (hn : off + n ≤ 128) :
    (Builtin.copy_ #[57, 9] 3 #[.slice (some ⟨g, off, none⟩) n n, .string rest]).run Try.prog W = .ok (.int .i64 n) (W.setRow g (rowB l (off + n))) := by
  have hrs : rest.size = 128 - off := by rw [Go.Lib.size_eq, hr, List.length_drop, hl]
  have hmin : Nat.min rest.size n = n := Nat.min_eq_right (by omega)
  have hlen : (byteCells ((l.drop off).take n)).length = n := by rw [byteCells_length, List.length_take, List.length_drop]; omega
  have hst := run_storeCells_at Try.prog g off t (byteCells ((l.drop off).take n)) 0 (rowB l off) W hB (by rw [hlen, rowB_size l off hl (by omega)]; omega) (byteCells_one _)
  rw [hlen] at hst
  have htk : List.take n (List.map (fun b : UInt8 => Value.int IntKind.u8 (b.toNat : Int)) rest.data.toList) = byteCells ((l.drop off).take n) := by
    rw [hr, byteCells, List.map_take]
  have hz : ∀ w, (Go.sizeOf 5).run Try.prog w = .ok 1 w := by
    intro w; rfl
  have hrow : (List.take (off + 0) (rowB l off).toList ++ byteCells ((l.drop off).take n) ++ List.drop (off + 0 + n) (rowB l off).toList).toArray = rowB l (off + n) := by
    unfold rowB
    congr 1
    have h1 : (byteCells (l.take off)).length = off := by rw [byteCells_length, List.length_take]; omega
    simp only [Nat.add_zero]
    rw [List.take_append_of_le_length (by omega), List.take_of_length_le (by omega), List.drop_append, h1, List.drop_of_length_le (l := byteCells (l.take off)) (by omega), List.nil_append, List.drop_replicate]
    congr 1
    · unfold byteCells
      rw [← List.map_append, List.take_add]
    · congr 1; omega
  simp [Builtin.copy_, run_underlying Try.underlying57, Builtin.lenOf, Builtin.firstCells, hz]
  simp only [hmin]
  rw [htk, hst, hrow]
  rfl

theorem cut_no (s : ByteArray) (w : World) (hs : s.size ≤ maxLen) (h : s.size ≠ 128) :
    Calls Try.prog 37 #[.string s] w fun e w' => e = .panicked bad ∧ Below w.heap.size w w' := by
  have hv := zero_fields.1
  have hq : ((s.size : Int) == 128) = false := by simp; omega
  have B0 := Lib.hid (below1 w (.cells z128 69))
  go_enter Try.func37, Try.ntmps37
  go_wp2_with fail
  refine (need_no _).mono ?_
  rintro e w' ⟨rfl, rfl⟩
  go_wp2_with fail
  exact ⟨rfl, rfl, B0.out⟩

theorem rowB_one (l : List UInt8) (i : Nat) : (rowB l i).all (·.oneCell') = true := by
  unfold rowB
  refine all_oneCell_toArray (fun v hv => ?_)
  rcases List.mem_append.1 hv with h | h
  · exact byteCells_one _ v h
  · rw [List.eq_of_mem_replicate h]; rfl
theorem info_row (l : List UInt8) (hl : l.length = 128) (i : Nat) (hi : i ≤ 128) : (Try.prog.info? 69).map (·.size) = some (rowB l i).size := by rw [rowB_size l i hl hi]; exact zero_fields.2
theorem drop_ext (T : ByteArray) (l : List UInt8) (off n N : Nat) (h : T.data.toList = l.drop off) (hz : T.size = N) : (T.extract n N).data.toList = l.drop (off + n) := by
  have e : (T.extract n N).data.toList = (T.data.toList.take N).drop n := by
    subst hz
    simp [ByteArray.data_extract, Array.toList_extract]
    rw [List.drop_take]
  rw [e, List.take_of_length_le (by rw [← hz, Go.Lib.size_eq]; exact Nat.le_refl _), h, List.drop_drop]

section
variable {ops : Array Oper} {rest : List Oper} {o : Oper} {a : Act} {w : World} {Q : Exit → Act → World → Prop}
theorem load_f (hgd : o.guard = none) (x : Operand) (ho : o.op = .load 69 x) (g : Nat) (hx : a.eval x = .pointer (some ⟨g, 0, none⟩)) (l : List UInt8) (hl : l.length = 128) (hg : Blk w g 69 (rowB l 128))
    (h : wpList Try.prog ops Q rest (a.put o.dst (.agg (rowB l 128))) w) : wpList Try.prog ops Q (o :: rest) a w :=
  wpList_load_row hgd _ x ho g hx _ (rowB l 128) (0, 0) _ hg Try.underlying69 rfl (info_row l hl 128 (by omega)) h
theorem store_f (hgd : o.guard = none) (x y : Operand) (ho : o.op = .store 69 x y) (g : Nat) (hx : a.eval x = .pointer (some ⟨g, 0, none⟩)) (l : List UInt8) (hl : l.length = 128) (hy : a.eval y = .agg (rowB l 128)) (hg : Blk w g 69 z128)
    (h : wpList Try.prog ops Q rest (a.put o.dst undef) (w.setRow g (rowB l 128))) : wpList Try.prog ops Q (o :: rest) a w :=
  wpList_store_row hgd _ x y ho g (rowB l 128) hx hy _ z128 hg (info_row l hl 128 (by omega)) (by rw [rowB_size l 128 hl (by omega)]; simp [z128]) (rowB_one l 128) h
end

set_option maxHeartbeats 4000000 in
set_option maxRecDepth 100000 in
theorem cut_yes (s : ByteArray) (w : World) (h : s.size = 128) :
    Calls Try.prog 37 #[.string s] w fun e w' => e = .returned (.agg (rowB s.data.toList 128)) ∧ Below w.heap.size w w' := by
  have hv := zero_fields.1
  have hq : ((s.size : Int) == 128) = true := by simp; omega
  obtain ⟨l, EL⟩ : ∃ l, Hid (s.data.toList = l) := ⟨_, rfl⟩
  have hl : l.length = 128 := by rw [← EL.out, ← Go.Lib.size_eq, h]
  rw [EL.out]
  obtain ⟨W0, E0⟩ : ∃ W0, Hid ((((w.alloc (.cells z128 69)).alloc (.cells z128 69)).alloc (.cells #[.slice (some ⟨w.heap.size + 1, 0, none⟩) 8 8, .slice (some ⟨w.heap.size + 1, 8, none⟩) 4 4, .slice (some ⟨w.heap.size + 1, 12, none⟩) 8 8, .slice (some ⟨w.heap.size + 1, 20, none⟩) 8 8, .slice (some ⟨w.heap.size + 1, 28, none⟩) 1 1, .slice (some ⟨w.heap.size + 1, 29, none⟩) 87 87, .slice (some ⟨w.heap.size + 1, 116, none⟩) 4 4, .slice (some ⟨w.heap.size + 1, 120, none⟩) 8 8] 57)).drew = W0) := ⟨_, rfl⟩
  have R0 : Blk W0 w.heap.size 69 z128 := by rw [← E0.out]; exact (((Blk.new _ _ _).later (below1 _ _)).later (below1 _ _)).later (below_drawn _)
  have K0 : Blk W0 (w.heap.size + 1) 69 (rowB l 0) := by
    rw [← E0.out, rowB_zero]
    have := ((Blk.new (w.alloc (.cells z128 69)) 69 z128).later (below1 _ (.cells #[.slice (some ⟨w.heap.size + 1, 0, none⟩) 8 8, .slice (some ⟨w.heap.size + 1, 8, none⟩) 4 4, .slice (some ⟨w.heap.size + 1, 12, none⟩) 8 8, .slice (some ⟨w.heap.size + 1, 20, none⟩) 8 8, .slice (some ⟨w.heap.size + 1, 28, none⟩) 1 1, .slice (some ⟨w.heap.size + 1, 29, none⟩) 87 87, .slice (some ⟨w.heap.size + 1, 116, none⟩) 4 4, .slice (some ⟨w.heap.size + 1, 120, none⟩) 8 8] 57))).later (below_drawn _)
    rw [show (w.alloc (.cells z128 69)).heap.size = w.heap.size + 1 by simp] at this
    exact this
  have N0 : Blk W0 (w.heap.size + 1 + 1) 57 #[.slice (some ⟨w.heap.size + 1, 0, none⟩) 8 8, .slice (some ⟨w.heap.size + 1, 8, none⟩) 4 4, .slice (some ⟨w.heap.size + 1, 12, none⟩) 8 8, .slice (some ⟨w.heap.size + 1, 20, none⟩) 8 8, .slice (some ⟨w.heap.size + 1, 28, none⟩) 1 1, .slice (some ⟨w.heap.size + 1, 29, none⟩) 87 87, .slice (some ⟨w.heap.size + 1, 116, none⟩) 4 4, .slice (some ⟨w.heap.size + 1, 120, none⟩) 8 8] := by
    rw [← E0.out]
    have := (Blk.new ((w.alloc (.cells z128 69)).alloc (.cells z128 69)) 57 #[.slice (some ⟨w.heap.size + 1, 0, none⟩) 8 8, .slice (some ⟨w.heap.size + 1, 8, none⟩) 4 4, .slice (some ⟨w.heap.size + 1, 12, none⟩) 8 8, .slice (some ⟨w.heap.size + 1, 20, none⟩) 8 8, .slice (some ⟨w.heap.size + 1, 28, none⟩) 1 1, .slice (some ⟨w.heap.size + 1, 29, none⟩) 87 87, .slice (some ⟨w.heap.size + 1, 116, none⟩) 4 4, .slice (some ⟨w.heap.size + 1, 120, none⟩) 8 8]).later (below_drawn _)
    rw [show ((w.alloc (.cells z128 69)).alloc (.cells z128 69)).heap.size = w.heap.size + 1 + 1 by simp] at this
    exact this
  have B0 : Below w.heap.size w W0 := by rw [← E0.out]; exact Wd.Ge.trans (Wd.Ge.trans (Wd.Ge.trans (below1 _ _) (below1 _ _)) (below1 _ _)) (below_drawn _)
  have D0 := EL.out
  have s0 := h
  obtain ⟨W1, E1⟩ : ∃ W, Hid (W0.setRow (w.heap.size + 1) (rowB l 8) = W) := ⟨_, rfl⟩
  have M0 := copy_at W0 (w.heap.size + 1) 69 l 0 8 s K0 hl D0 (by omega)
  rw [show 0 + 8 = 8 from rfl, E1.out, show ((8 : Nat) : Int) = 8 from rfl] at M0
  have L0 := N0.cell 0
  simp only [List.getElem?_toArray, List.getElem?_cons_zero] at L0
  obtain ⟨T1, X0⟩ : ∃ T, s.extract 8 128 = T := ⟨_, rfl⟩
  have D1 : T1.data.toList = l.drop 8 := by rw [← X0]; exact drop_ext s l 0 8 128 D0 s0
  have s1 : T1.size = 120 := by rw [Go.Lib.size_eq, D1, List.length_drop, hl]
  have K1 : Blk W1 (w.heap.size + 1) 69 (rowB l 8) := by rw [← E1.out]; exact K0.row _
  have R1 : Blk W1 w.heap.size 69 z128 := by rw [← E1.out]; exact R0.far (by omega) _
  have N1 := N0.far (g' := w.heap.size + 1) (by omega) (rowB l 8)
  rw [E1.out] at N1
  have B1 : Below w.heap.size w W1 := by rw [← E1.out]; exact below_row B0 (by omega) _
  clear K0 R0 N0 B0 E1
  obtain ⟨W2, E2⟩ : ∃ W, Hid (W1.setRow (w.heap.size + 1) (rowB l 12) = W) := ⟨_, rfl⟩
  have M1 := copy_at W1 (w.heap.size + 1) 69 l 8 4 T1 K1 hl D1 (by omega)
  rw [show 8 + 4 = 12 from rfl, E2.out, show ((4 : Nat) : Int) = 4 from rfl] at M1
  have L1 := N1.cell 1
  simp only [List.getElem?_toArray, List.getElem?_cons_succ, List.getElem?_cons_zero] at L1
  obtain ⟨T2, X1⟩ : ∃ T, T1.extract 4 120 = T := ⟨_, rfl⟩
  have D2 : T2.data.toList = l.drop 12 := by rw [← X1]; exact drop_ext T1 l 8 4 120 D1 s1
  have s2 : T2.size = 116 := by rw [Go.Lib.size_eq, D2, List.length_drop, hl]
  have K2 : Blk W2 (w.heap.size + 1) 69 (rowB l 12) := by rw [← E2.out]; exact K1.row _
  have R2 : Blk W2 w.heap.size 69 z128 := by rw [← E2.out]; exact R1.far (by omega) _
  have N2 := N1.far (g' := w.heap.size + 1) (by omega) (rowB l 12)
  rw [E2.out] at N2
  have B2 : Below w.heap.size w W2 := by rw [← E2.out]; exact below_row B1 (by omega) _
  clear K1 R1 N1 B1 E2
  obtain ⟨W3, E3⟩ : ∃ W, Hid (W2.setRow (w.heap.size + 1) (rowB l 20) = W) := ⟨_, rfl⟩
  have M2 := copy_at W2 (w.heap.size + 1) 69 l 12 8 T2 K2 hl D2 (by omega)
  rw [show 12 + 8 = 20 from rfl, E3.out, show ((8 : Nat) : Int) = 8 from rfl] at M2
  have L2 := N2.cell 2
  simp only [List.getElem?_toArray, List.getElem?_cons_succ, List.getElem?_cons_zero] at L2
  obtain ⟨T3, X2⟩ : ∃ T, T2.extract 8 116 = T := ⟨_, rfl⟩
  have D3 : T3.data.toList = l.drop 20 := by rw [← X2]; exact drop_ext T2 l 12 8 116 D2 s2
  have s3 : T3.size = 108 := by rw [Go.Lib.size_eq, D3, List.length_drop, hl]
  have K3 : Blk W3 (w.heap.size + 1) 69 (rowB l 20) := by rw [← E3.out]; exact K2.row _
  have R3 : Blk W3 w.heap.size 69 z128 := by rw [← E3.out]; exact R2.far (by omega) _
  have N3 := N2.far (g' := w.heap.size + 1) (by omega) (rowB l 20)
  rw [E3.out] at N3
  have B3 : Below w.heap.size w W3 := by rw [← E3.out]; exact below_row B2 (by omega) _
  clear K2 R2 N2 B2 E3
  obtain ⟨W4, E4⟩ : ∃ W, Hid (W3.setRow (w.heap.size + 1) (rowB l 28) = W) := ⟨_, rfl⟩
  have M3 := copy_at W3 (w.heap.size + 1) 69 l 20 8 T3 K3 hl D3 (by omega)
  rw [show 20 + 8 = 28 from rfl, E4.out, show ((8 : Nat) : Int) = 8 from rfl] at M3
  have L3 := N3.cell 3
  simp only [List.getElem?_toArray, List.getElem?_cons_succ, List.getElem?_cons_zero] at L3
  obtain ⟨T4, X3⟩ : ∃ T, T3.extract 8 108 = T := ⟨_, rfl⟩
  have D4 : T4.data.toList = l.drop 28 := by rw [← X3]; exact drop_ext T3 l 20 8 108 D3 s3
  have s4 : T4.size = 100 := by rw [Go.Lib.size_eq, D4, List.length_drop, hl]
  have K4 : Blk W4 (w.heap.size + 1) 69 (rowB l 28) := by rw [← E4.out]; exact K3.row _
  have R4 : Blk W4 w.heap.size 69 z128 := by rw [← E4.out]; exact R3.far (by omega) _
  have N4 := N3.far (g' := w.heap.size + 1) (by omega) (rowB l 28)
  rw [E4.out] at N4
  have B4 : Below w.heap.size w W4 := by rw [← E4.out]; exact below_row B3 (by omega) _
  clear K3 R3 N3 B3 E4
  obtain ⟨W5, E5⟩ : ∃ W, Hid (W4.setRow (w.heap.size + 1) (rowB l 29) = W) := ⟨_, rfl⟩
  have M4 := copy_at W4 (w.heap.size + 1) 69 l 28 1 T4 K4 hl D4 (by omega)
  rw [show 28 + 1 = 29 from rfl, E5.out, show ((1 : Nat) : Int) = 1 from rfl] at M4
  have L4 := N4.cell 4
  simp only [List.getElem?_toArray, List.getElem?_cons_succ, List.getElem?_cons_zero] at L4
  obtain ⟨T5, X4⟩ : ∃ T, T4.extract 1 100 = T := ⟨_, rfl⟩
  have D5 : T5.data.toList = l.drop 29 := by rw [← X4]; exact drop_ext T4 l 28 1 100 D4 s4
  have s5 : T5.size = 99 := by rw [Go.Lib.size_eq, D5, List.length_drop, hl]
  have K5 : Blk W5 (w.heap.size + 1) 69 (rowB l 29) := by rw [← E5.out]; exact K4.row _
  have R5 : Blk W5 w.heap.size 69 z128 := by rw [← E5.out]; exact R4.far (by omega) _
  have N5 := N4.far (g' := w.heap.size + 1) (by omega) (rowB l 29)
  rw [E5.out] at N5
  have B5 : Below w.heap.size w W5 := by rw [← E5.out]; exact below_row B4 (by omega) _
  clear K4 R4 N4 B4 E5
  obtain ⟨W6, E6⟩ : ∃ W, Hid (W5.setRow (w.heap.size + 1) (rowB l 116) = W) := ⟨_, rfl⟩
  have M5 := copy_at W5 (w.heap.size + 1) 69 l 29 87 T5 K5 hl D5 (by omega)
  rw [show 29 + 87 = 116 from rfl, E6.out, show ((87 : Nat) : Int) = 87 from rfl] at M5
  have L5 := N5.cell 5
  simp only [List.getElem?_toArray, List.getElem?_cons_succ, List.getElem?_cons_zero] at L5
  obtain ⟨T6, X5⟩ : ∃ T, T5.extract 87 99 = T := ⟨_, rfl⟩
  have D6 : T6.data.toList = l.drop 116 := by rw [← X5]; exact drop_ext T5 l 29 87 99 D5 s5
  have s6 : T6.size = 12 := by rw [Go.Lib.size_eq, D6, List.length_drop, hl]
  have K6 : Blk W6 (w.heap.size + 1) 69 (rowB l 116) := by rw [← E6.out]; exact K5.row _
  have R6 : Blk W6 w.heap.size 69 z128 := by rw [← E6.out]; exact R5.far (by omega) _
  have N6 := N5.far (g' := w.heap.size + 1) (by omega) (rowB l 116)
  rw [E6.out] at N6
  have B6 : Below w.heap.size w W6 := by rw [← E6.out]; exact below_row B5 (by omega) _
  clear K5 R5 N5 B5 E6
  obtain ⟨W7, E7⟩ : ∃ W, Hid (W6.setRow (w.heap.size + 1) (rowB l 120) = W) := ⟨_, rfl⟩
  have M6 := copy_at W6 (w.heap.size + 1) 69 l 116 4 T6 K6 hl D6 (by omega)
  rw [show 116 + 4 = 120 from rfl, E7.out, show ((4 : Nat) : Int) = 4 from rfl] at M6
  have L6 := N6.cell 6
  simp only [List.getElem?_toArray, List.getElem?_cons_succ, List.getElem?_cons_zero] at L6
  obtain ⟨T7, X6⟩ : ∃ T, T6.extract 4 12 = T := ⟨_, rfl⟩
  have D7 : T7.data.toList = l.drop 120 := by rw [← X6]; exact drop_ext T6 l 116 4 12 D6 s6
  have s7 : T7.size = 8 := by rw [Go.Lib.size_eq, D7, List.length_drop, hl]
  have K7 : Blk W7 (w.heap.size + 1) 69 (rowB l 120) := by rw [← E7.out]; exact K6.row _
  have R7 : Blk W7 w.heap.size 69 z128 := by rw [← E7.out]; exact R6.far (by omega) _
  have N7 := N6.far (g' := w.heap.size + 1) (by omega) (rowB l 120)
  rw [E7.out] at N7
  have B7 : Below w.heap.size w W7 := by rw [← E7.out]; exact below_row B6 (by omega) _
  clear K6 R6 N6 B6 E7
  obtain ⟨W8, E8⟩ : ∃ W, Hid (W7.setRow (w.heap.size + 1) (rowB l 128) = W) := ⟨_, rfl⟩
  have M7 := copy_at W7 (w.heap.size + 1) 69 l 120 8 T7 K7 hl D7 (by omega)
  rw [show 120 + 8 = 128 from rfl, E8.out, show ((8 : Nat) : Int) = 8 from rfl] at M7
  have L7 := N7.cell 7
  simp only [List.getElem?_toArray, List.getElem?_cons_succ, List.getElem?_cons_zero] at L7
  obtain ⟨T8, X7⟩ : ∃ T, T7.extract 8 8 = T := ⟨_, rfl⟩
  have D8 : T8.data.toList = l.drop 128 := by rw [← X7]; exact drop_ext T7 l 120 8 8 D7 s7
  have s8 : T8.size = 0 := by rw [Go.Lib.size_eq, D8, List.length_drop, hl]
  have K8 : Blk W8 (w.heap.size + 1) 69 (rowB l 128) := by rw [← E8.out]; exact K7.row _
  have R8 : Blk W8 w.heap.size 69 z128 := by rw [← E8.out]; exact R7.far (by omega) _
  have N8 := N7.far (g' := w.heap.size + 1) (by omega) (rowB l 128)
  rw [E8.out] at N8
  have B8 : Below w.heap.size w W8 := by rw [← E8.out]; exact below_row B7 (by omega) _
  clear K7 R7 N7 B7 E8
  clear D0 D1 D2 D3 D4 D5 D6 D7 D8 N8
  have hi8 := info_row l hl 128 (by omega)
  have KK := Lib.hid K8
  have RR := Lib.hid R8
  have BB := Lib.hid B8
  have HI := Lib.hid hi8
  have HL := Lib.hid hl
  clear K8 R8 B8 hi8 hl
  go_enter Try.func37, Try.ntmps37
  go_wp2_with fail
  refine (need_yes _).mono ?_
  rintro e w' ⟨rfl, rfl⟩
  go_wp2_with fail
  go_region
  rw [E0.out]
  clear E0
  go_wp2_with fail
  refine wp_loop_rounds 9 ?_
  iterate 8 (rw [rounds_succ]; go_wp2_with fail)
  rw [rounds_succ]
  go_wp2_with (first
    | (with_reducible refine load_f rfl (.tmp 3) rfl (w.heap.size + 1) rfl l HL.out KK.out ?_)
    | (with_reducible refine store_f rfl (.tmp 2) (.tmp 40) rfl w.heap.size rfl l HL.out rfl RR.out ?_))
  have hh := RR.out.row (rowB l 128)
  clear M0 L0 X0 s0 M1 L1 X1 s1 M2 L2 X2 s2 M3 L3 X3 s3 M4 L4 X4 s4 M5 L5 X5 s5 M6 L6 X6 s6 M7 L7 X7 s7 s8
  refine bodyPost_ret (v := .agg (rowB l 128)) (results_cell_row (by rfl) _ _ w.heap.size _ (rowB l 128) _ _ (by rfl) hh Try.underlying69 rfl HI.out) rfl ⟨rfl, ?_⟩
  exact below_row BB.out (Nat.le_refl _) _

end Go.Proofs.Ytdnkhjikfdalbaa
