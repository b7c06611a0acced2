/- slices.Grow of a nil slice; slices.Concat. -/
import Derived.Test.YtogfpakopckfoaaWpK
import Derived.Lib.AppendZeros
namespace Go.Proofs.Ytogfpakopckfoaa.Wl
open Go.RowKit Go.Lib Go.Maps
open Sp
set_option linter.unusedVariables false
set_option maxRecDepth 100000

set_option maxHeartbeats 2000000 in
theorem grow_any (n : Nat) (hn : n ≤ 20000) (w : World) : Calls Try.prog 49 #[.slice none 0 0, .int .i64 (n : Int)] w fun e w' => ∃ v, e = .returned v ∧ w'.ownsRow w.heap.size 75 1 v 0 [] ∧ Below w.heap.size w w' := by
  obtain ⟨i0, hi0, hz0, hz1, hz2⟩ := info_parts pptr_infos
  have h1 : ¬ ((n : Int) < 0) := by omega
  have w1 : IntKind.i64.wrap (n : Int) = (n : Int) := IntWalk.i64_in _ (by omega)
  rcases Nat.eq_zero_or_pos n with rfl | h0
  · go_enter Try.func49, Try.ntmps49
    go_wp2_with fail
    go_ret
    exact ⟨_, rfl, World.ownsRow_nil _ _ _ _, Below.refl _ _⟩
  · have h2 : (0 : Int) < (n : Int) := by omega
    have hr := fun W ty => run_append_nil_zeros (P := Try.prog) W 62 3 ty 75 i0 _ .i64 .i64 Try.underlying62 Try.underlying3 hi0 hz0 n h0 (by rw [hz1]; decide) (by omega) (by rw [hz2]; omega)
    have hc1 := fun W : World => grownCap_ge W n 0 75
    have hc2 := fun W : World => grownCap_le_maxLen W n 0 75 (by unfold maxLen; omega)
    obtain ⟨cp, hcp⟩ : ∃ cp, grownCap w n 0 75 = cp := ⟨_, rfl⟩
    have hr1 := hr w
    rw [hcp] at hr1
    have HC1 : Hid (n ≤ cp) := Lib.hid (by rw [← hcp]; exact hc1 w)
    have HC2 : Hid (cp ≤ maxLen) := Lib.hid (by rw [← hcp]; exact hc2 w)
    obtain ⟨cs, hcs⟩ : ∃ cs, Builtin.zeroCells (Value.pointer none).cells n ++ Builtin.zeroCells (Value.pointer none).cells (cp - n) = cs := ⟨_, rfl⟩
    rw [hcs] at hr1
    have HSZ : Hid (cs.size = cp * 1) := Lib.hid (by
      rw [← hcs, Array.size_append, size_zeroCells, size_zeroCells]
      have : (Value.pointer none).cells.size = 1 := rfl
      rw [this]
      have := HC1.out
      omega)
    have hcz : (0 : Int) ≤ (cp : Int) := by omega
    have hcz2 : 0 ≤ cp := Nat.zero_le _
    clear hr hc1 hc2 hcp hcs
    go_enter Try.func49, Try.ntmps49
    go_wp2_with (refine wpList_append_run _ rfl (.tmp 20) (.tmp 21) 62 3 rfl (.slice none 0 0) (.int .i64 (n : Int)) rfl rfl _ _ (hr1 _) ?_)
    go_ret
    exact ⟨_, rfl, World.ownsRow_made w.drew cs cp (Nat.le_refl _) HC2.out HSZ.out, ((Below.refl _ _).drew).alloc (Nat.le_refl _) _⟩
/-- The first n lists, one behind the other. -/
def catL (ls : Nat → List En) : Nat → List En
  | 0 => []
  | n + 1 => catL ls n ++ ls n
theorem catL_len {ls : Nat → List En} {c : Nat} (h : ∀ i, i < c → (ls i).length ≤ 200) : ∀ n, n ≤ c → (catL ls n).length ≤ 200 * n
  | 0, _ => by simp [catL]
  | n + 1, hn => by
    have h1 := catL_len h n (by omega)
    have h2 := h n (by omega)
    unfold catL
    rw [List.length_append]
    omega
/-- 'x = append(x, s...)', both rows of pointers, x one's own. -/
theorem push_row {w : World} {B n m : Nat} {v s : Value} {xs ys : List Value} (hv : w.ownsRow B 75 1 v n xs) (hs : w.ownsRow 0 75 1 s m ys) (hB : B ≤ w.heap.size) (hnm : n + m ≤ 20000) (h1c : ∀ u ∈ ys, u.oneCell' = true) (ty : TypeId) :
    ∃ v' w', (Builtin.append_ #[62, 62] ty #[v, s]).run Try.prog w = .ok v' w' ∧ w'.ownsRow B 75 1 v' (n + m) (xs ++ ys) ∧ Below B w w' ∧ w.grownBy w' v.ownBlock ∧ (v'.ownBlock = v.ownBlock ∨ v'.ownBlock = some w.heap.size) := by
  obtain ⟨i0, hi0, hz0, hz1, hz2⟩ := info_parts pptr_infos
  have hyl := hs.1
  rcases hs.2 with ⟨rfl, rfl⟩ | ⟨g, cap, cur, rfl, _, hg, hc1, hc2, hc3, hc4⟩
  · have hy : ys = [] := List.eq_nil_of_length_eq_zero (by simpa using hyl)
    subst hy
    refine ⟨v, w, run_append_zero B 62 ty 75 i0 1 Try.underlying62 hi0 v n xs hv 0, by rw [List.append_nil]; exact hv, Below.refl _ _, ⟨rfl, rfl, rfl, Nat.le_refl _, fun _ _ _ => rfl⟩, .inl rfl⟩
  · obtain ⟨v5, W5, hrun, own5, g5, _, hat5⟩ := run_append_own_at (P := Try.prog) w B 62 ty 75 i0 _ 1 8 Try.underlying62 hi0 hz0 hz1 hz2 rfl (by decide) v n xs hv ⟨g, 0, none⟩ m cap ys hyl
      (hs.cells rfl) h1c (by unfold maxLen; omega) (by omega) hB
    refine ⟨v5, W5, hrun, own5, ⟨g5.os, g5.tape, g5.output, g5.size, fun b hb => g5.block b (Nat.lt_of_lt_of_le hb hB) (fun e1 => ?_)⟩, g5, hat5⟩
    have := (hv.lt b e1.symm).1
    omega
theorem ptr_one (l : List En) : ∀ u ∈ l.map En.ptr, u.oneCell' = true := by
  intro u hu
  obtain ⟨e, _, rfl⟩ := List.mem_map.1 hu
  rfl
set_option maxHeartbeats 8000000 in
theorem concat_any {w : World} {g o c cp : Nat} {f : Nat → Value} {ls : Nat → List En} (hc : c ≤ 64) (hf : ∀ i, i < c → w.cell? ⟨g, o + i, none⟩ = some (f i)) (hr : ∀ i, i < c → w.ownsRow 0 75 1 (f i) (ls i).length ((ls i).map En.ptr)) (hl : ∀ i, i < c → (ls i).length ≤ 200) :
    Calls Try.prog 44 #[.slice (some ⟨g, o, none⟩) c cp] w fun e w' => ∃ v, e = .returned v ∧ w'.ownsRow w.heap.size 75 1 v (catL ls c).length ((catL ls c).map En.ptr) ∧ Below w.heap.size w w' := by
  have HF := Lib.hid hf
  have HR := Lib.hid hr
  have HL := Lib.hid hl
  have HC := Lib.hid hc
  have HCL : Hid (∀ n, n ≤ c → (catL ls n).length ≤ 200 * n) := Lib.hid (catL_len hl)
  have HSL : ∀ i, i < c → ∃ Av cv, f i = .slice Av (ls i).length cv := fun i hi => by
    rcases (hr i hi).2 with ⟨h1, h2⟩ | ⟨gv, cap, cur, h1, _⟩
    · exact ⟨none, 0, by rw [h1, h2]⟩
    · exact ⟨_, _, h1⟩
  clear hf hr hl hc
  go_enter Try.func44, Try.ntmps44
  go_wp2_with fail
  go_loopg [3, 11] c (fun gk s3 s11 wr => ∃ (i : Nat), i ≤ c ∧ gk = c - i ∧ s3 = .int .i64 ((catL ls i).length : Nat) ∧ s11 = .int .i64 (i : Nat) ∧ w = wr)
  case atStart => exact ⟨0, by omega, rfl, rfl, rfl, rfl⟩
  case round =>
    obtain ⟨i, hi, hgk, rfl, rfl, rfl⟩ := hrel
    have HGK := Lib.hid hgk
    clear hgk
    by_cases hlt : i < c
    · have hli : (i : Int) < (c : Int) := by omega
      have wi : IntKind.i64.wrap ((i : Int) + 1) = (i : Int) + 1 := IntWalk.i64_in _ (by have := HC.out; omega)
      obtain ⟨Av, cv, hfi⟩ := HSL i hlt
      have x0 : w.cell? ⟨g, o + i, none⟩ = some (.slice Av (ls i).length cv) := by rw [← hfi]; exact HF.out i hlt
      have HS : Hid ((catL ls (i + 1)).length = (catL ls i).length + (ls i).length) := Lib.hid (by show (catL ls i ++ ls i).length = _; rw [List.length_append])
      have HB1 := Lib.hid (HL.out i hlt)
      have HB2 := Lib.hid (HCL.out i hi)
      generalize (ls i).length = m at *
      generalize (catL ls i).length = M at *
      have wc : IntKind.i64.wrap ((M : Int) + (m : Int)) = (M : Int) + (m : Int) := IntWalk.i64_in _ (by have := HB1.out; have := HB2.out; have := HC.out; omega)
      have hnn : ¬ ((M : Int) + (m : Int) < 0) := by omega
      go_wp2_with fail
      go_roundg (c - (i + 1))
      case measure => have := HGK.out; omega
      case rel => exact ⟨i + 1, by omega, by have := HGK.out; omega, by rw [HS.out]; go_num, by go_num, rfl⟩
    · obtain rfl : i = c := by omega
      have HG := Lib.hid (grow_any (catL ls i).length (by have := HCL.out i (Nat.le_refl _); have := HC.out; omega) w)
      go_upto_region 10 with (go_at_call 49; refine HG.out.mono ?_; rintro e3 w3 ⟨v3, rfl, h3, hb3⟩; have H3 := Lib.hid h3; have HB3 := Lib.hid hb3; clear h3 hb3)
      go_wp2_with fail
      go_loopg [6, 27] i (fun gk s6 s27 w5 => ∃ (q : Nat), q ≤ i ∧ gk = i - q ∧ s27 = .int .i64 (q : Nat) ∧ Hid (w5.ownsRow w.heap.size 75 1 s6 (catL ls q).length ((catL ls q).map En.ptr)) ∧ Hid (Below w.heap.size w w5))
      case atStart => exact ⟨0, by omega, rfl, rfl, H3, HB3⟩
      case round =>
        obtain ⟨q, hq, hgk, rfl, HV, HW⟩ := hrel
        have HGK := Lib.hid hgk
        clear hgk H3 HB3
        by_cases hlt2 : q < i
        · have hqi : (q : Int) < (i : Int) := by omega
          have wq : IntKind.i64.wrap ((q : Int) + 1) = (q : Int) + 1 := IntWalk.i64_in _ (by have := HC.out; omega)
          obtain ⟨Av, cv, hfq⟩ := HSL q hlt2
          have y0 : w.cell? ⟨g, o + q, none⟩ = some (.slice Av (ls q).length cv) := by rw [← hfq]; exact HF.out q hlt2
          have x0 : wr.cell? ⟨g, o + q, none⟩ = some (.slice Av (ls q).length cv) := (HW.out.cell (World.block_lt_of_cell? _ _ y0)).trans y0
          have hsrc : wr.ownsRow 0 75 1 (.slice Av (ls q).length cv) (ls q).length ((ls q).map En.ptr) := by
            rw [← hfq]
            refine own_same (HR.out q hlt2) fun b hb => HW.out.block b ((HR.out q hlt2).lt b hb).2
          obtain ⟨v', w', hrun, own', hb', _, _⟩ := push_row HV.out hsrc HW.out.size (by have := HL.out q hlt2; have := HCL.out q (by omega); have := HC.out; omega) (ptr_one _) 62
          have HV2 : Hid (w'.ownsRow w.heap.size 75 1 v' (catL ls (q + 1)).length ((catL ls (q + 1)).map En.ptr)) := Lib.hid (by
            have : catL ls (q + 1) = catL ls q ++ ls q := rfl
            rw [this, List.length_append, List.map_append]
            exact own')
          have HW2 : Hid (Below w.heap.size w w') := Lib.hid (HW.out.trans hb')
          clear y0 hsrc own' hb' HV HW
          go_wp2_with (refine wpList_append_run _ rfl (.tmp 31) (.tmp 32) 62 62 rfl _ _ rfl rfl _ _ hrun ?_)
          go_roundg (i - (q + 1))
          case measure => have := HGK.out; omega
          case rel => exact ⟨q + 1, by omega, by have := HGK.out; omega, by go_num, HV2, HW2⟩
        · obtain rfl : q = i := by omega
          go_wp2_with fail
          go_ret
          exact ⟨_, rfl, HV.out, HW.out⟩
end Go.Proofs.Ytogfpakopckfoaa.Wl
