/- The program's reckon. -/
import Derived.Test.YtjdkgkllgapgjaaPxD
import Derived.Test.YtjdkgkllgapgjaaClass
import Derived.Deep.RegionLaw
import Derived.RegionTactic
import Derived.BigRegion
import Derived.IntWalk
namespace Go.Proofs.Ytjdkgkllgapgjaa.Px
open Go.RowKit Go.Lib Go.Maps
open Re (Rec Key new_cells)
open Ix
open Sp
set_option linter.unusedVariables false
set_option linter.unusedSimpArgs false
set_option maxRecDepth 100000

def reckT (t : St) (a : Nw) (σ : Int) : St :=
  if a.b then (((t.nnS a.s (t.nn a.s + σ)).nlS a.s (t.nl a.s + σ)).nzS a.s (t.nz a.s + σ * a.z)).lvS (t.lv + σ) else t.nnS a.s (t.nn a.s + σ)
/-- Numbers that no sum of two goes beyond. -/
abbrev Sm (n : Int) : Prop := -1000000000 ≤ n ∧ n ≤ 1000000000
theorem set_at {l : List Sp.Item} {k : Nat} {a : Sp.Item} (hk : l[k]? = some a) (b : Sp.Item) : (l.set k b)[k]? = some b := List.getElem?_set_self (List.getElem?_eq_some_iff.1 hk).1
theorem set_far {l : List Sp.Item} {k n : Nat} {a : Sp.Item} (hl : l[n]? = some a) (hne : k ≠ n) (b : Sp.Item) : (l.set k b)[n]? = some a := by
  rw [List.getElem?_set_ne hne]
  exact hl
theorem lt_of_at {l : List Sp.Item} {k : Nat} {a : Sp.Item} (hk : l[k]? = some a) : k ≠ l.length := by
  have := (List.getElem?_eq_some_iff.1 hk).1
  omega
section
variable {W w w' : World} {items : List Sp.Item} {k : Nat} {t : St}
theorem ix0 (h : Sp.Sep W w items) (hk : items[k]? = some (mI t)) : w.cell? ⟨t.g, 0, none⟩ = some (.map (some t.mp)) := ((mI_at h hk).ok .g).cell 0
theorem ix1 (h : Sp.Sep W w items) (hk : items[k]? = some (mI t)) : w.cell? ⟨t.g, 1, none⟩ = some (.map (some t.ms)) := ((mI_at h hk).ok .g).cell 1
theorem ix2 (h : Sp.Sep W w items) (hk : items[k]? = some (mI t)) : w.cell? ⟨t.g, 2, none⟩ = some (.map (some t.mc)) := ((mI_at h hk).ok .g).cell 2
theorem ix3 (h : Sp.Sep W w items) (hk : items[k]? = some (mI t)) : w.cell? ⟨t.g, 3, none⟩ = some (.map (some t.mn)) := ((mI_at h hk).ok .g).cell 3
theorem ix4 (h : Sp.Sep W w items) (hk : items[k]? = some (mI t)) : w.cell? ⟨t.g, 4, none⟩ = some (.int .i64 t.lv) := ((mI_at h hk).ok .g).cell 4
theorem ixf (h : Sp.Sep W w items) (hk : items[k]? = some (mI t)) : w.frozen? ⟨t.g, 4, none⟩ = false := ((mI_at h hk).ok .g).frozen 4
theorem sgb (h : Sp.Sep W w items) (hk : items[k]? = some (mI t)) {s : Int} {e : Sg} (he : t.q s = some e) : Sp.Blk w e.b 63 (sgC t s e) := (mI_at h hk).ok (.b s) e he
theorem q_look (h : Sp.Sep W w items) (hk : items[k]? = some (mI t)) {s : Int} (hs : I64 s) :
    (Instr.lookup tyS (.map (some t.ms)) (.int .i64 s) true).run Try.prog w = .ok (.tuple #[((t.q s).map Sg.ptr).getD (.pointer none), .bool (t.q s).isSome]) w ∧
    (Instr.lookup tyS (.map (some t.ms)) (.int .i64 s) false).run Try.prog w = .ok (((t.q s).map Sg.ptr).getD (.pointer none)) w := by
  have h1 := MF.look ((mI_at h hk).ok .s) intK Try.underlying54 (Try.zeroValue60 w) (key_int hs)
  have e1 : iF (fun s => (t.q s).map Sg.ptr) (.int .i64 s) = (t.q s).map Sg.ptr := rfl
  rw [e1, Option.isSome_map] at h1
  exact h1
set_option maxHeartbeats 4000000 in
theorem reckon_any (h : Sp.Sep W w items) (hk : items[k]? = some (mI t)) (a : Nw) (σ : Int) {e : Sg} (he : t.q a.s = some e) (hs : I64 a.s) (r1 : Sm (t.nn a.s)) (r2 : Sm (t.nl a.s)) (r3 : Sm (t.nz a.s)) (r4 : Sm t.lv) (r5 : Sm σ) (r6 : Sm (σ * a.z)) :
    Calls Try.prog 28 #[.pointer (some ⟨t.g, 0, none⟩), .agg (enA a), .int .i64 σ] w fun x w' => x = .returned (.tuple #[]) ∧ Sp.Sep W w' (items.set k (mI (reckT t a σ))) := by
  have H0 := loc_alloc h 34 (enA a)
  have HK0 := Lib.hid (app_at (b := locI [(w.heap.size, 34, enA a)]) hk)
  have HK := Lib.hid hk
  obtain ⟨nb, hnb⟩ : ∃ nb, w.heap.size = nb := ⟨_, rfl⟩
  rw [hnb] at H0 HK0
  obtain ⟨J, hJ⟩ : ∃ J, items ++ [locI [(nb, 34, enA a)]] = J := ⟨_, rfl⟩
  rw [hJ] at H0 HK0
  have HJ := Lib.hid hJ
  have HL : Hid (J[items.length]? = some (locI [(nb, 34, enA a)])) := Lib.hid (by rw [← hJ]; exact app_last)
  clear h hk hJ
  go_enter Try.func28, Try.ntmps28
  go_upto_region 1 with fail
  generalize w.alloc (.cells (enA a) 34) = w1 at *
  have I : Sp.Sep W { w1 with drawn := w1.drawn + 1 } J := H0.drew
  have hne : Nonempty (In (fun X => Sp.Sep W X J)) := ⟨⟨_, I⟩⟩
  have f0 : ∀ jj : In (fun X => Sp.Sep W X J), jj.W.cell? ⟨t.g, 1, none⟩ = some (.map (some t.ms)) := fun jj => ix1 jj.h HK0.out
  have f1 : ∀ jj : In (fun X => Sp.Sep W X J), jj.W.cell? ⟨nb, 4, none⟩ = some (.int .i64 a.s) := fun jj => (loc_blk jj.h HL.out).cell 4
  have f2 : ∀ jj : In (fun X => Sp.Sep W X J), (Instr.lookup 54 (.map (some t.ms)) (.int .i64 a.s) false).run Try.prog jj.W = .ok (.pointer (some ⟨e.b, 0, none⟩)) jj.W := fun jj => by
    have := (q_look jj.h HK0.out hs).2
    rw [he] at this
    exact this
  clear H0 hnb
  refine region_class (fun X => Sp.Sep W X J) (by kernel_rfl) (by kernel_rfl) I ?_
  repeat (go_big_quiet_step (fail))
  refine wpQuiet_nil ?_
  rintro _ ⟨jj, rfl⟩
  have SX := Lib.hid jj.h
  clear I hne f0 f1 f2
  generalize jj.W = X at *
  clear jj
  have HE := Lib.hid he
  have hB := sgb SX.out HK0.out HE.out
  have hN := loc_blk SX.out HL.out
  have x2 : X.cell? ⟨e.b, 2, none⟩ = some (.int .i64 (t.nn a.s)) := hB.cell 2
  have z2 : X.frozen? ⟨e.b, 2, none⟩ = false := hB.frozen 2
  have y2 : X.cell? ⟨nb, 2, none⟩ = some (.bool a.b) := hN.cell 2
  have wi2 : IntKind.i64.wrap (t.nn a.s + σ) = t.nn a.s + σ := IntWalk.i64_in _ (by omega)
  have S2 := nn_set SX.out HK0.out HE.out (t.nn a.s + σ)
  have hk2 := set_at HK0.out (mI (t.nnS a.s (t.nn a.s + σ)))
  have hl2 := set_far HL.out (lt_of_at HK.out) (mI (t.nnS a.s (t.nn a.s + σ)))
  have HS2 := Lib.hid S2
  have HK2 := Lib.hid hk2
  have HL2 := Lib.hid hl2
  clear S2 hB hN he hs hk2 hl2
  go_upto_region 3 with fail
  clear wi2 x2 y2 z2
  generalize X.setCell ⟨e.b, 2, none⟩ (.int .i64 (t.nn a.s + σ)) = X2 at *
  by_cases hb : a.b = true
  · have hB := sgb HS2.out HK2.out HE.out
    have hN := loc_blk HS2.out HL2.out
    have x3 : X2.cell? ⟨e.b, 3, none⟩ = some (.int .i64 (t.nl a.s)) := hB.cell 3
    have z3 : X2.frozen? ⟨e.b, 3, none⟩ = false := hB.frozen 3
    have y3 : X2.cell? ⟨nb, 2, none⟩ = some (.bool true) := by rw [← hb]; exact hN.cell 2
    have wi3 : IntKind.i64.wrap (t.nl a.s + σ) = t.nl a.s + σ := IntWalk.i64_in _ (by omega)
    have S3 := nl_set HS2.out HK2.out HE.out (t.nl a.s + σ)
    rw [List.set_set] at S3
    have HS3 := Lib.hid S3
    have HR : Hid (reckT t a σ = (((t.nnS a.s (t.nn a.s + σ)).nlS a.s (t.nl a.s + σ)).nzS a.s (t.nz a.s + σ * a.z)).lvS (t.lv + σ)) := Lib.hid (by unfold reckT; rw [if_pos hb])
    clear S3 hB hN HS2 HL2 HK2
    go_upto_region 5 with fail
    clear wi3 x3 y3 z3
    generalize X2.setCell ⟨e.b, 3, none⟩ (.int .i64 (t.nl a.s + σ)) = X3 at *
    have hk3 := set_at HK0.out (mI ((t.nnS a.s (t.nn a.s + σ)).nlS a.s (t.nl a.s + σ)))
    have hl3 := set_far HL.out (lt_of_at HK.out) (mI ((t.nnS a.s (t.nn a.s + σ)).nlS a.s (t.nl a.s + σ)))
    have hB := sgb HS3.out hk3 HE.out
    have hN := loc_blk HS3.out hl3
    have x4 : X3.cell? ⟨e.b, 4, none⟩ = some (.int .i64 (t.nz a.s)) := hB.cell 4
    have z4 : X3.frozen? ⟨e.b, 4, none⟩ = false := hB.frozen 4
    have y4 : X3.cell? ⟨nb, 3, none⟩ = some (.int .i64 a.z) := hN.cell 3
    have x4' : X3.drew.cell? ⟨e.b, 4, none⟩ = some (.int .i64 (t.nz a.s)) := x4
    have z4' : X3.drew.frozen? ⟨e.b, 4, none⟩ = false := z4
    have y4' : X3.drew.cell? ⟨nb, 3, none⟩ = some (.int .i64 a.z) := y4
    have wi5 : IntKind.i64.wrap (σ * a.z) = σ * a.z := IntWalk.i64_in _ (by omega)
    have wi6 : IntKind.i64.wrap (t.nz a.s + σ * a.z) = t.nz a.s + σ * a.z := IntWalk.i64_in _ (by omega)
    have S4 := (nz_set HS3.out hk3 HE.out (t.nz a.s + σ * a.z)).drew
    rw [List.set_set] at S4
    have hk4 := set_at HK0.out (mI (((t.nnS a.s (t.nn a.s + σ)).nlS a.s (t.nl a.s + σ)).nzS a.s (t.nz a.s + σ * a.z)))
    have x7 : (X3.setCell ⟨e.b, 4, none⟩ (.int .i64 (t.nz a.s + σ * a.z))).drew.cell? ⟨t.g, 4, none⟩ = some (.int .i64 t.lv) := by have q := ix4 S4 hk4; exact q
    have z7 : (X3.setCell ⟨e.b, 4, none⟩ (.int .i64 (t.nz a.s + σ * a.z))).drew.frozen? ⟨t.g, 4, none⟩ = false := by have q := ixf S4 hk4; exact q
    have wi7 : IntKind.i64.wrap (t.lv + σ) = t.lv + σ := IntWalk.i64_in _ (by omega)
    have S5 := lv_set S4 hk4 (t.lv + σ)
    rw [List.set_set, ← HJ.out, app_set HK.out] at S5
    have HS5 := Lib.hid (loc_drop S5)
    clear S4 S5 hk4 hB hN HS3 hk3 hl3
    go_region
    all_goals (try go_wp2_with fail)
    all_goals (
      go_end0
      refine ⟨rfl, ?_⟩
      rw [HR.out]
      exact HS5.out)
  · have hb' : a.b = false := by simpa using hb
    have hN := loc_blk HS2.out HL2.out
    have y3 : X2.cell? ⟨nb, 2, none⟩ = some (.bool false) := by rw [← hb']; exact hN.cell 2
    have HR : Hid (reckT t a σ = (t.nnS a.s (t.nn a.s + σ))) := Lib.hid (by unfold reckT; rw [if_neg hb])
    have S5 := HS2.out
    rw [← HJ.out, app_set HK.out] at S5
    have HS5 := Lib.hid (loc_drop S5)
    clear S5 hN
    go_wp2_with fail
    go_end0
    refine ⟨rfl, ?_⟩
    rw [HR.out]
    exact HS5.out
end
end Go.Proofs.Ytjdkgkllgapgjaa.Px
