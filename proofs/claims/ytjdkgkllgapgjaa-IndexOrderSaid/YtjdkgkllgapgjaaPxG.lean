/- The program's ofSession and vacant; its calls that only tell. -/
import Derived.Test.YtjdkgkllgapgjaaPxF
namespace Go.Proofs.Ytjdkgkllgapgjaa.Px
open Go.RowKit Go.Lib Go.Maps
open Re (Rec Key new_cells rcA isL below_drewN)
open Ix
open Sp
set_option linter.unusedVariables false
set_option linter.unusedSimpArgs false
set_option maxRecDepth 100000

theorem ofs_any (r : Rec) (w : World) : Calls Try.prog 23 #[.agg (rcA r)] w fun x w' => x = .returned (.bool (isL r)) ∧ Below w.heap.size w w' := by
  have e0 : isL r = (decide (r.k = 1) || decide (r.k = 2)) := by unfold isL; rfl
  rw [e0]
  by_cases h1 : r.k = 1
  · have d1 : decide (r.k = 1) = true := decide_eq_true h1
    rw [d1]
    go_enter Try.func23, Try.ntmps23
    go_wp2_with fail
    go_ret
    exact ⟨rfl, (Below.refl _ _).alloc (Nat.le_refl _) _⟩
  · have e9 : (decide (r.k = 1) || decide (r.k = 2)) = (r.k == 1 || r.k == 2) := by by_cases h2 : r.k = 2 <;> simp [h1, h2]
    have d1 : decide (r.k = 1) = false := decide_eq_false h1
    rw [e9]
    go_enter Try.func23, Try.ntmps23
    go_wp2_with fail
    go_ret
    exact ⟨rfl, (Below.refl _ _).alloc (Nat.le_refl _) _⟩
theorem info_e6 : (Try.prog.info? 34).map (·.size) = some 6 := by kernel_rfl
theorem res_e2 {fn : Func} {p' q' : Tmp} (h : fn.results = #[.cell p' 34, .tmp q']) (tmps : Array Value) (W : World) (b : Nat) {cs : Array Value} {t : TypeId} (hp : tmps.getD p' undef = .pointer (some ⟨b, 0, none⟩)) (L : Sp.Blk W b t cs) (hs : cs.size = 6) : (results fn tmps).run Try.prog W = .ok (.tuple #[.agg cs, tmps.getD q' undef]) W := by
  have hp' : tmps[p']?.getD undef = .pointer (some ⟨b, 0, none⟩) := by simpa using hp
  have h1 : (loadVar 34 ⟨b, 0, none⟩).run Try.prog W = .ok (.agg cs) W := run_loadVar_row W b t 34 cs (0, 0) _ L Try.underlying34 rfl (by rw [hs]; exact info_e6)
  simp [results, h, hp', asAddr, h1]
section
variable {W w w' : World} {items : List Sp.Item} {k : Nat} {t : St}
def strO (o : Option Value) : Value := o.getD (.string ⟨#[]⟩)
theorem p_look (h : Sp.Sep W w items) (hk : items[k]? = some (mI t)) {s p : Int} (hs : I64 s) (hp : I64 p) :
    (Instr.lookup 53 (.map (some t.mp)) (.agg #[.int .i64 s, .int .i64 p]) true).run Try.prog w = .ok (.tuple #[strO (t.fp (locK s p)), .bool (t.fp (locK s p)).isSome]) w ∧
    (Instr.lookup 53 (.map (some t.mp)) (.agg #[.int .i64 s, .int .i64 p]) false).run Try.prog w = .ok (strO (t.fp (locK s p))) w :=
  MF.look ((mI_at h hk).ok .p) locKd Try.underlying53 (Try.zeroValue9 w) (key_loc hs hp)
theorem c_look (h : Sp.Sep W w items) (hk : items[k]? = some (mI t)) {i : ByteArray} (hi : i.size ≤ maxLen) :
    (Instr.lookup 55 (.map (some t.mc)) (.string i) false).run Try.prog w = .ok (.int .i64 ((t.fc i.toList).getD 0)) w := by
  have h1 := (MF.look ((mI_at h hk).ok .c) strK Try.underlying55 (Try.zeroValue3 w) (key_str hi)).2
  have e1 : (sF (fun k => (t.fc k).map intV) (.string i.toList)).getD (.int .i64 0) = .int .i64 ((t.fc i.toList).getD 0) := by
    show ((t.fc i.toList).map intV).getD (.int .i64 0) = _
    cases t.fc i.toList <;> rfl
  rw [e1] at h1
  exact h1
theorem m_look (h : Sp.Sep W w items) (hk : items[k]? = some (mI t)) {s : Int} {e : Sg} (he : t.q s = some e) {i : ByteArray} (hi : i.size ≤ maxLen) :
    (Instr.lookup 55 (.map (some e.m)) (.string i) false).run Try.prog w = .ok (.int .i64 ((t.sc s i.toList).getD 0)) w := by
  have h1 := (MF.look ((mI_at h hk).ok (.m s) e he) strK Try.underlying55 (Try.zeroValue3 w) (key_str hi)).2
  have e1 : (sF (fun k => (t.sc s k).map intV) (.string i.toList)).getD (.int .i64 0) = .int .i64 ((t.sc s i.toList).getD 0) := by
    show ((t.sc s i.toList).map intV).getD (.int .i64 0) = _
    cases t.sc s i.toList <;> rfl
  rw [e1] at h1
  exact h1
set_option maxHeartbeats 4000000 in
theorem pnewest_any (h : Sp.Sep W w items) (hk : items[k]? = some (mI t)) {i : ByteArray} (hi : i.size ≤ maxLen) :
    Calls Try.prog 11 #[.pointer (some ⟨t.g, 0, none⟩), .string i] w fun e w' => e = .returned (.tuple #[.agg (enO (t.nw i.toList)), .bool (t.nw i.toList).isSome]) ∧ Below w.heap.size w w' := by
  have x3 := ix3 (h.alloc (.cells #[.int .u64 0, .int .u64 0, .bool false, .int .i64 0, .int .i64 0, .int .i64 0] 34)) hk
  have hl := (n_look (h.alloc (.cells #[.int .u64 0, .int .u64 0, .bool false, .int .i64 0, .int .i64 0, .int .i64 0] 34)) hk hi).1
  obtain ⟨u0, u1, u2, u3, u4, u5, hE⟩ : ∃ u0 u1 u2 u3 u4 u5, enO (t.nw i.toList) = #[.int .u64 u0, .int .u64 u1, .bool u2, .int .i64 u3, .int .i64 u4, .int .i64 u5] := by
    cases t.nw i.toList with
    | none => exact ⟨_, _, _, _, _, _, rfl⟩
    | some a => exact ⟨_, _, _, _, _, _, rfl⟩
  rw [hE] at hl ⊢
  generalize (t.nw i.toList).isSome = B at *
  clear h hk hi hE
  go_enter Try.func11, Try.ntmps11
  go_wp2_with fail
  exact bodyPost_ret (res_e2 rfl _ _ w.heap.size rfl ((Sp.Blk.new _ _ _).later ((Below.refl _ _).alloc (Nat.le_refl _) _)) rfl) rfl ⟨rfl, ((Below.refl _ _).alloc (Nat.le_refl _) _).alloc (by simp) _⟩
set_option maxHeartbeats 4000000 in
theorem pat_any (h : Sp.Sep W w items) (hk : items[k]? = some (mI t)) {s p : Int} (hs : I64 s) (hp : I64 p) :
    Calls Try.prog 12 #[.pointer (some ⟨t.g, 0, none⟩), .agg #[.int .i64 s, .int .i64 p]] w fun e w' => e = .returned (.tuple #[strO (t.fp (locK s p)), .bool (t.fp (locK s p)).isSome]) ∧ Below w.heap.size w w' := by
  have h0 := loc_alloc h 32 #[.int .i64 s, .int .i64 p]
  have hk0 := app_at (b := locI [(w.heap.size, 32, #[.int .i64 s, .int .i64 p])]) hk
  have hl0 : (items ++ [locI [(w.heap.size, 32, #[.int .i64 s, .int .i64 p])]])[items.length]? = some (locI [(w.heap.size, 32, #[.int .i64 s, .int .i64 p])]) := app_last
  obtain ⟨bv, hbv⟩ : ∃ bv, (t.fp (locK s p)).isSome = bv := ⟨_, rfl⟩
  have q0 := ix0 h0 hk0
  have q1 := (loc_blk h0 hl0).cell 0
  have q2 := (loc_blk h0 hl0).cell 1
  have hlk := fun n => (p_look (w := (w.alloc (.cells #[.int .i64 s, .int .i64 p] 32)).drewN n) (h0.later (below_drewN (Below.refl _ _) n)) hk0 hs hp).1
  have hB : Below w.heap.size w (w.alloc (.cells #[.int .i64 s, .int .i64 p] 32)) := (Below.refl _ _).alloc (Nat.le_refl _) _
  have HB := Lib.hid hB
  rw [hbv] at hlk ⊢
  generalize strO (t.fp (locK s p)) = sv at *
  clear h hk hs hp hbv h0 hk0 hl0 hB
  go_enter Try.func12, Try.ntmps12
  go_upto_region 1 with fail
  go_quiet (fail)
  go_wp2_with fail
  refine bodyPost_ret (results_tmp2 rfl _ _ _) rfl ?_
  exact ⟨rfl, below_drewN HB.out _⟩
theorem plives_any (h : Sp.Sep W w items) (hk : items[k]? = some (mI t)) :
    Calls Try.prog 13 #[.pointer (some ⟨t.g, 0, none⟩)] w fun e w' => e = .returned (.int .i64 t.lv) ∧ Below w.heap.size w w' := by
  have x4 := ix4 h hk
  clear h hk
  go_enter Try.func13, Try.ntmps13
  go_wp2_with fail
  go_ret
  exact ⟨rfl, Below.refl _ _⟩
set_option maxHeartbeats 4000000 in
theorem pin_any (h : Sp.Sep W w items) (hk : items[k]? = some (mI t)) {s : Int} (hs : I64 s) :
    Calls Try.prog 9 #[.pointer (some ⟨t.g, 0, none⟩), .int .i64 s] w fun e w' => e = .returned (.tuple (if (t.q s).isSome then #[.int .i64 (t.nn s), .int .i64 (t.nl s), .int .i64 (t.nz s)] else #[.int .i64 0, .int .i64 0, .int .i64 0])) ∧ Below w.heap.size w w' := by
  have x1 := ix1 h hk
  have hl := (q_look h hk hs).1
  cases hq : t.q s with
  | none =>
    rw [hq] at hl
    change _ = Result.ok (Value.tuple #[.pointer none, .bool false]) w at hl
    clear h hk hs hq
    go_enter Try.func9, Try.ntmps9
    go_wp2_with fail
    go_ret3
    exact ⟨rfl, Below.refl _ _⟩
  | some e =>
    rw [hq] at hl
    change _ = Result.ok (Value.tuple #[.pointer (some ⟨e.b, 0, none⟩), .bool true]) w at hl
    have hB := sgb h hk hq
    have y2 : w.cell? ⟨e.b, 2, none⟩ = some (.int .i64 (t.nn s)) := hB.cell 2
    have y3 : w.cell? ⟨e.b, 3, none⟩ = some (.int .i64 (t.nl s)) := hB.cell 3
    have y4 : w.cell? ⟨e.b, 4, none⟩ = some (.int .i64 (t.nz s)) := hB.cell 4
    clear h hk hs hq hB
    go_enter Try.func9, Try.ntmps9
    go_upto_region 4 with fail
    go_quiet (fail)
    go_wp2_with fail
    go_ret3
    exact ⟨rfl, below_drewN (Below.refl _ _) _⟩
set_option maxHeartbeats 4000000 in
theorem poth_any (h : Sp.Sep W w items) (hk : items[k]? = some (mI t)) {i : ByteArray} (hi : i.size ≤ maxLen) {s : Int} (hs : I64 s) (hr0 : (t.q s).isSome = true → IntKind.i64.wrap ((t.fc i.toList).getD 0 - (t.sc s i.toList).getD 0) = (t.fc i.toList).getD 0 - (t.sc s i.toList).getD 0) :
    Calls Try.prog 16 #[.pointer (some ⟨t.g, 0, none⟩), .string i, .int .i64 s] w fun e w' => e = .returned (.int .i64 (if (t.q s).isSome then (t.fc i.toList).getD 0 - (t.sc s i.toList).getD 0 else (t.fc i.toList).getD 0)) ∧ Below w.heap.size w w' := by
  have x1 := ix1 h hk
  have x2 := ix2 h hk
  have hl := (q_look h hk hs).1
  have hc := c_look h hk hi
  cases hq : t.q s with
  | none =>
    rw [hq] at hl
    change _ = Result.ok (Value.tuple #[.pointer none, .bool false]) w at hl
    clear h hk hs hi hq hr0
    go_enter Try.func16, Try.ntmps16
    go_wp2_with fail
    go_ret
    exact ⟨rfl, Below.refl _ _⟩
  | some e =>
    rw [hq] at hl
    change _ = Result.ok (Value.tuple #[.pointer (some ⟨e.b, 0, none⟩), .bool true]) w at hl
    have hB := sgb h hk hq
    have y1 : w.cell? ⟨e.b, 1, none⟩ = some (.map (some e.m)) := hB.cell 1
    have hm := m_look h hk hq hi
    have hr := hr0 (by rw [hq]; rfl)
    clear h hk hs hi hq hB hr0
    go_enter Try.func16, Try.ntmps16
    go_wp2_with fail
    go_ret
    exact ⟨rfl, Below.refl _ _⟩
end
end Go.Proofs.Ytjdkgkllgapgjaa.Px
