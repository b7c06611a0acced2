/- For every three checkpoints and every place the statement CkptTorn about ckpt.Best returns true, and changes nothing. Conditions: none. -/
import Derived.Test.YtdnkhjikfdalbaaCpT
import Derived.Test.YtdnkhjikfdalbaaCpO
import Derived.Deep.DeepCutAuto
import Derived.Deep.LoopGhost
import Derived.StillTailTactics
import Derived.WalkSmall
import Derived.IntWalk
import Derived.ProofKit
import Derived.OpenShut
import Derived.ShutString
import Derived.SizedLaws
namespace Go.Proofs.Ytdnkhjikfdalbaa.ckptTorn
open Go.ChangeShapes Go.WideShapes Go.ChangeAt Go.RowKit Go.Lib Wd Cr
open Go.ChangeMaps (open_string shut_string)
set_option linter.unusedVariables false

theorem own : ownKnob Try.prog.godebug = none := by kernel_rfl
theorem laid : laidOutB Try.prog = true := by kernel_rfl

theorem ext_at (S : ByteArray) (i j : Nat) : (S.extract i j).data.toList = (S.data.toList.take j).drop i := by
  simp [ByteArray.data_extract, Array.toList_extract]
  rw [List.drop_take]

set_option maxRecDepth 100000 in
set_option maxHeartbeats 32000000 in
theorem main (g0 e0 l0 v0 : Int) (A0 : Option Addr) (m0 p0 : Nat) (B0 : Option Addr) (k0 q0 : Nat) (o0 n0 : List Int) (g1 e1 l1 v1 : Int) (A1 : Option Addr) (m1 p1 : Nat) (B1 : Option Addr) (k1 q1 : Nat) (o1 n1 : List Int) (g2 e2 l2 v2 : Int) (A2 : Option Addr) (m2 p2 : Nat) (B2 : Option Addr) (k2 q2 : Nat) (o2 n2 : List Int) (t2 : Int) (w : World) (hg0 : 0 ≤ g0 ∧ g0 < 18446744073709551616) (he0 : 0 ≤ e0 ∧ e0 < 4294967296) (hl0 : 0 ≤ l0 ∧ l0 < 18446744073709551616) (hv0 : 0 ≤ v0 ∧ v0 < 18446744073709551616) (sa0 : Sl w A0 m0 o0) (sb0 : Sl w B0 k0 n0) (hm0 : m0 ≤ maxLen ∧ k0 ≤ maxLen) (hp0 : m0 ≤ p0 ∧ k0 ≤ q0) (hg1 : 0 ≤ g1 ∧ g1 < 18446744073709551616) (he1 : 0 ≤ e1 ∧ e1 < 4294967296) (hl1 : 0 ≤ l1 ∧ l1 < 18446744073709551616) (hv1 : 0 ≤ v1 ∧ v1 < 18446744073709551616) (sa1 : Sl w A1 m1 o1) (sb1 : Sl w B1 k1 n1) (hm1 : m1 ≤ maxLen ∧ k1 ≤ maxLen) (hp1 : m1 ≤ p1 ∧ k1 ≤ q1) (hg2 : 0 ≤ g2 ∧ g2 < 18446744073709551616) (he2 : 0 ≤ e2 ∧ e2 < 4294967296) (hl2 : 0 ≤ l2 ∧ l2 < 18446744073709551616) (hv2 : 0 ≤ v2 ∧ v2 < 18446744073709551616) (sa2 : Sl w A2 m2 o2) (sb2 : Sl w B2 k2 n2) (hm2 : m2 ≤ maxLen ∧ k2 ≤ maxLen) (hp2 : m2 ≤ p2 ∧ k2 ≤ q2) (ht2 : 0 ≤ t2 ∧ t2 < 256) (S0 S1 S2 : ByteArray) (y0 y1 y2 : Int) (E0 : Hid (EncAt w g0 e0 l0 v0 A0 (cut20 m0) p0 B0 (cut20 k0) q0 S0 y0)) (E1 : Hid (EncAt w g1 e1 l1 v1 A1 (cut20 m1) p1 B1 (cut20 k1) q1 S1 y1)) (E2 : Hid (EncAt w g2 e2 l2 v2 A2 (cut20 m2) p2 B2 (cut20 k2) q2 S2 y2)) (hy : y0 = 0 ∨ y0 = 5) (hz0 : Hid (y0 = 0 → S0.size = 128)) (hz2 : Hid (y2 = 0 → S2.size = 128)) (hm1s : S1.size ≤ maxLen)
    (HC : Hid ((y1 = 5 ∧ y2 = 5) ∨ (y1 = 5 ∧ y2 = 0) ∨ (y1 = 0 ∧ y2 = 5) ∨ (y1 = 0 ∧ y2 = 0 ∧ g2 ≤ g1) ∨ (y1 = 0 ∧ y2 = 0 ∧ ¬ g2 ≤ g1 ∧ y0 = 0 ∧ g1 ≤ g0) ∨ (y1 = 0 ∧ y2 = 0 ∧ ¬ g2 ≤ g1 ∧ (y0 = 5 ∨ (y0 = 0 ∧ ¬ g1 ≤ g0)))))
    (HT : Hid (∀ Z : ByteArray, (Z = S0 ∧ y0 = 0) ∨ (Z = zeroTo 128 ∧ y0 = 5) → ∀ k ≤ 128, ∀ M : ByteArray, M.data.toList = S2.data.toList.take k ++ Z.data.toList.drop k → M.size ≤ maxLen ∧
      (M = S2 → y1 = 0 ∧ y2 = 0 ∧ ¬ g2 ≤ g1 ∧ (y0 = 5 ∨ (y0 = 0 ∧ ¬ g1 ≤ g0)) → bestC M.data.toList S1.data.toList = (⟨g2, e2, l2, v2, o2.take 20, n2.take 20⟩ : Chk) ∧ bestI M.data.toList S1.data.toList = 0 ∧ bestE M.data.toList S1.data.toList = 0) ∧
      (M ≠ S2 → y1 = 0 ∧ y2 = 0 ∧ ¬ g2 ≤ g1 ∧ (y0 = 5 ∨ (y0 = 0 ∧ ¬ g1 ≤ g0)) → bestC M.data.toList S1.data.toList = (⟨g1, e1, l1, v1, o1.take 20, n1.take 20⟩ : Chk) ∧ bestI M.data.toList S1.data.toList = 1 ∧ bestE M.data.toList S1.data.toList = 0))) :
    Calls Try.prog 5 #[.agg #[.int .u64 g0, .int .u32 e0, .int .u64 l0, .int .u64 v0, .slice A0 m0 p0, .slice B0 k0 q0], .agg #[.int .u64 g1, .int .u32 e1, .int .u64 l1, .int .u64 v1, .slice A1 m1 p1, .slice B1 k1 q1], .agg #[.int .u64 g2, .int .u32 e2, .int .u64 l2, .int .u64 v2, .slice A2 m2 p2, .slice B2 k2 q2, .int .u8 t2]] w fun e' w' => e' = .returned (.bool true) ∧ Below w.heap.size w w' := by
  have SA1 := Lib.hid sa1.cut
  have SB1 := Lib.hid sb1.cut
  have SA2 := Lib.hid sa2.cut
  have SB2 := Lib.hid sb2.cut
  obtain ⟨ht0, ht1⟩ := ht2
  clear sa0 sb0 sa1 sb1 sa2 sb2
  have B := below1 w (.cells #[.int .u64 g0, .int .u32 e0, .int .u64 l0, .int .u64 v0, .slice A0 m0 p0, .slice B0 k0 q0] 26)
  have K0 : Blk (w.alloc (.cells #[.int .u64 g0, .int .u32 e0, .int .u64 l0, .int .u64 v0, .slice A0 m0 p0, .slice B0 k0 q0] 26)) (w.heap.size) 26 (csC g0 e0 l0 v0 A0 m0 p0 B0 k0 q0) := blk_new w 26 (csC g0 e0 l0 v0 A0 m0 p0 B0 k0 q0) (w.heap.size) (by simp)
  have hb := below1 (w.alloc (.cells #[.int .u64 g0, .int .u32 e0, .int .u64 l0, .int .u64 v0, .slice A0 m0 p0, .slice B0 k0 q0] 26)) (.cells #[.int .u64 g1, .int .u32 e1, .int .u64 l1, .int .u64 v1, .slice A1 m1 p1, .slice B1 k1 q1] 26)
  replace K0 := K0.later hb
  replace B := Wd.Ge.trans B hb
  clear hb
  have K1 : Blk ((w.alloc (.cells #[.int .u64 g0, .int .u32 e0, .int .u64 l0, .int .u64 v0, .slice A0 m0 p0, .slice B0 k0 q0] 26)).alloc (.cells #[.int .u64 g1, .int .u32 e1, .int .u64 l1, .int .u64 v1, .slice A1 m1 p1, .slice B1 k1 q1] 26)) (w.heap.size + 1) 26 (csC g1 e1 l1 v1 A1 m1 p1 B1 k1 q1) := blk_new (w.alloc (.cells #[.int .u64 g0, .int .u32 e0, .int .u64 l0, .int .u64 v0, .slice A0 m0 p0, .slice B0 k0 q0] 26)) 26 (csC g1 e1 l1 v1 A1 m1 p1 B1 k1 q1) (w.heap.size + 1) (by simp)
  have hb := below1 ((w.alloc (.cells #[.int .u64 g0, .int .u32 e0, .int .u64 l0, .int .u64 v0, .slice A0 m0 p0, .slice B0 k0 q0] 26)).alloc (.cells #[.int .u64 g1, .int .u32 e1, .int .u64 l1, .int .u64 v1, .slice A1 m1 p1, .slice B1 k1 q1] 26)) (.cells #[.int .u64 g2, .int .u32 e2, .int .u64 l2, .int .u64 v2, .slice A2 m2 p2, .slice B2 k2 q2, .int .u8 t2] 49)
  replace K0 := K0.later hb
  replace K1 := K1.later hb
  replace B := Wd.Ge.trans B hb
  clear hb
  have K2 : Blk (((w.alloc (.cells #[.int .u64 g0, .int .u32 e0, .int .u64 l0, .int .u64 v0, .slice A0 m0 p0, .slice B0 k0 q0] 26)).alloc (.cells #[.int .u64 g1, .int .u32 e1, .int .u64 l1, .int .u64 v1, .slice A1 m1 p1, .slice B1 k1 q1] 26)).alloc (.cells #[.int .u64 g2, .int .u32 e2, .int .u64 l2, .int .u64 v2, .slice A2 m2 p2, .slice B2 k2 q2, .int .u8 t2] 49)) (w.heap.size + 1 + 1) 49 (csT g2 e2 l2 v2 A2 m2 p2 B2 k2 q2 t2) := blk_new ((w.alloc (.cells #[.int .u64 g0, .int .u32 e0, .int .u64 l0, .int .u64 v0, .slice A0 m0 p0, .slice B0 k0 q0] 26)).alloc (.cells #[.int .u64 g1, .int .u32 e1, .int .u64 l1, .int .u64 v1, .slice A1 m1 p1, .slice B1 k1 q1] 26)) 49 (csT g2 e2 l2 v2 A2 m2 p2 B2 k2 q2 t2) (w.heap.size + 1 + 1) (by simp)
  have C0 := Lib.hid (fun w => lawcut_any g0 e0 l0 v0 A0 m0 p0 B0 k0 q0 w hm0.1 hm0.2 hp0.1 hp0.2)
  have C1 := Lib.hid (fun w => lawcut_any g1 e1 l1 v1 A1 m1 p1 B1 k1 q1 w hm1.1 hm1.2 hp1.1 hp1.2)
  have C2 := Lib.hid (fun w => lawcut_any g2 e2 l2 v2 A2 m2 p2 B2 k2 q2 w hm2.1 hm2.2 hp2.1 hp2.2)
  obtain ⟨wa, EW⟩ : ∃ wa, Hid ((((w.alloc (.cells #[.int .u64 g0, .int .u32 e0, .int .u64 l0, .int .u64 v0, .slice A0 m0 p0, .slice B0 k0 q0] 26)).alloc (.cells #[.int .u64 g1, .int .u32 e1, .int .u64 l1, .int .u64 v1, .slice A1 m1 p1, .slice B1 k1 q1] 26)).alloc (.cells #[.int .u64 g2, .int .u32 e2, .int .u64 l2, .int .u64 v2, .slice A2 m2 p2, .slice B2 k2 q2, .int .u8 t2] 49)) = wa) := ⟨_, rfl⟩
  rw [EW.out] at B K0 K1 K2
  go_enter Try.func5, Try.ntmps5
  go_upto_region 1 with fail
  rw [EW.out]
  clear EW
  generalize cut20 m0 = c0 at *
  generalize cut20 k0 = d0 at *
  generalize cut20 m1 = c1 at *
  generalize cut20 k1 = d1 at *
  generalize cut20 m2 = c2 at *
  generalize cut20 k2 = d2 at *
  have HK := Lib.hid K0
  go_wp2_with (with_reducible refine load_c rfl (.tmp 3) rfl (w.heap.size) rfl HK.out ?_)
  refine (C0.out _).mono ?_
  rintro e' u0 ⟨rfl, hb⟩
  replace K0 := K0.later hb
  replace K1 := K1.later hb
  replace K2 := K2.later hb
  replace B := Wd.Ge.trans B hb
  clear hb
  clear HK
  have HK := Lib.hid K0
  go_upto_region 2 with (with_reducible refine store_c rfl (.tmp 3) (.tmp 21) rfl (w.heap.size) rfl rfl HK.out ?_)
  replace K1 := K1.far (g' := w.heap.size) (by omega) (csC g0 e0 l0 v0 A0 c0 p0 B0 d0 q0)
  replace K2 := K2.far (g' := w.heap.size) (by omega) (csC g0 e0 l0 v0 A0 c0 p0 B0 d0 q0)
  replace K0 := K0.row (csC g0 e0 l0 v0 A0 c0 p0 B0 d0 q0)
  replace B := below_set B (show w.heap.size ≤ w.heap.size by omega) (csC g0 e0 l0 v0 A0 c0 p0 B0 d0 q0)
  generalize u0.setRow (w.heap.size) (csC g0 e0 l0 v0 A0 c0 p0 B0 d0 q0) = z0 at *
  clear HK C0
  have HK := Lib.hid K1
  go_wp2_with (with_reducible refine load_c rfl (.tmp 4) rfl (w.heap.size + 1) rfl HK.out ?_)
  refine (C1.out _).mono ?_
  rintro e' u1 ⟨rfl, hb⟩
  replace K0 := K0.later hb
  replace K1 := K1.later hb
  replace K2 := K2.later hb
  replace B := Wd.Ge.trans B hb
  clear hb
  clear HK
  have HK := Lib.hid K1
  go_upto_region 3 with (with_reducible refine store_c rfl (.tmp 4) (.tmp 23) rfl (w.heap.size + 1) rfl rfl HK.out ?_)
  replace K0 := K0.far (g' := w.heap.size + 1) (by omega) (csC g1 e1 l1 v1 A1 c1 p1 B1 d1 q1)
  replace K2 := K2.far (g' := w.heap.size + 1) (by omega) (csC g1 e1 l1 v1 A1 c1 p1 B1 d1 q1)
  replace K1 := K1.row (csC g1 e1 l1 v1 A1 c1 p1 B1 d1 q1)
  replace B := below_set B (show w.heap.size ≤ w.heap.size + 1 by omega) (csC g1 e1 l1 v1 A1 c1 p1 B1 d1 q1)
  generalize u1.setRow (w.heap.size + 1) (csC g1 e1 l1 v1 A1 c1 p1 B1 d1 q1) = z1 at *
  clear HK C1
  obtain ⟨H, hH⟩ : ∃ H, z1.heap.size = H := ⟨_, rfl⟩
  have hq1 : w.heap.size + 1 + 1 < H := by rw [← hH]; exact K2.lt
  have HH := Lib.hid hH
  have hv26 := Try.zeroValue26
  clear hH
  refine FreeC.wp_freeC (wl [some (.pointer (some ⟨w.heap.size + 1 + 1, 0, none⟩)),
    some (.agg #[.int .u64 g2, .int .u32 e2, .int .u64 l2, .int .u64 v2, .slice A2 m2 p2, .slice B2 k2 q2]),
    some (.agg #[.int .u64 g2, .int .u32 e2, .int .u64 l2, .int .u64 v2, .slice A2 c2 p2, .slice B2 d2 q2]),
    some (.pointer (some ⟨w.heap.size + 1 + 1, 6, none⟩)),
    some (.int .u8 t2),
    none,
    none,
    some (.int .u8 t2)]) (T3 w H (csC g0 e0 l0 v0 A0 c0 p0 B0 d0 q0) (csC g1 e1 l1 v1 A1 c1 p1 B1 d1 q1) (csT g2 e2 l2 v2 A2 m2 p2 B2 k2 q2 t2) (csC g2 e2 l2 v2 A2 c2 p2 B2 d2 q2)) (by kernel_rfl) (by kernel_rfl) ⟨Wd.Ge.trans B (below_drawn _), K0.later (below_drawn _), K1.later (below_drawn _), K2.later (below_drawn _), by rw [← HH.out]; exact Nat.le_refl _, fun h => by simp at h, fun h => by simp at h⟩ ?_ ?_
  · refine ⟨?_, ?_, ?_, ?_, ?_, ?_, ?_, ?_, trivial⟩
    · intro listed A W hA hno hr K hK
      have e5 : A.tmps[5]?.getD undef = .pointer (some ⟨w.heap.size + 1 + 1, 0, none⟩) := slot_is ((hA.kept 5 (Free.not_dst (by kernel_rfl))).trans rfl)
      simp [go_sem, e5]
      exact hK _ _ (hA.c.step _ _ _ (by decide) (by decide) (by decide) (Below.refl _ _)) rfl (fun _ _ _ _ h => h)
    · intro listed A W hA hno hr K hK
      have e24 : A.tmps[24]?.getD undef = .pointer (some ⟨w.heap.size + 1 + 1, 0, none⟩) := slot_is (hA.val 0 _ rfl (hr ⟨0, .data⟩ (by simp) rfl))
      refine wp_load_mid 26 (.tmp 24) rfl (w.heap.size + 1 + 1) 0 (hA.val 0 _ rfl (hr ⟨0, .data⟩ (by simp) rfl)) [.int .u64 g2, .int .u32 e2, .int .u64 l2, .int .u64 v2, .slice A2 m2 p2, .slice B2 k2 q2] _ (hA.c.k2.range 0 _ (fun j v hv => by
        rw [Nat.zero_add]
        rcases Nat.lt_or_ge j 6 with hj | hj
        · rcases (by omega : j = 0 ∨ j = 1 ∨ j = 2 ∨ j = 3 ∨ j = 4 ∨ j = 5) with rfl | rfl | rfl | rfl | rfl | rfl <;> exact hv
        · rw [List.getElem?_eq_none (by simpa using hj)] at hv; cases hv)) Try.underlying26 rfl info_c ?_
      exact hK _ _ (hA.c.step _ _ _ (by decide) (by decide) (by decide) (Below.refl _ _)) rfl (fun _ _ _ _ h => h)
    · intro listed A W hA hno hr K hK
      have e25 : A.tmps[25]?.getD undef = .agg #[.int .u64 g2, .int .u32 e2, .int .u64 l2, .int .u64 v2, .slice A2 m2 p2, .slice B2 k2 q2] := slot_is (hA.val 1 _ rfl (hr ⟨1, .data⟩ (by simp) rfl))
      simp [go_sem, e25]
      refine (C2.out _).mono ?_
      rintro e' w' ⟨rfl, hb⟩
      exact hK _ _ (hA.c.step _ _ _ (by decide) (by decide) (by decide) hb) rfl (fun _ _ _ _ h => wl_any h)
    · intro listed A W hA hno hr K hK
      have e5 : A.tmps[5]?.getD undef = .pointer (some ⟨w.heap.size + 1 + 1, 0, none⟩) := slot_is ((hA.kept 5 (Free.not_dst (by kernel_rfl))).trans rfl)
      simp [go_sem, e5]
      exact hK _ _ (hA.c.step _ _ _ (by decide) (by decide) (by decide) (Below.refl _ _)) rfl (fun _ _ _ _ h => h)
    · intro listed A W hA hno hr K hK
      have e27 : A.tmps[27]?.getD undef = .pointer (some ⟨w.heap.size + 1 + 1, 6, none⟩) := slot_is (hA.val 3 _ rfl (hr ⟨3, .data⟩ (by simp) rfl))
      have ct : W.cell? ⟨w.heap.size + 1 + 1, 6, none⟩ = some (.int .u8 t2) := hA.c.k2.cell 6
      simp [go_sem, e27, ct]
      exact hK _ _ (hA.c.step _ _ _ (by decide) (by decide) (by decide) (Below.refl _ _)) rfl (fun _ _ _ _ h => h)
    · intro listed A W hA hno hr K hK
      have hsz := hA.size
      simp at hsz
      have hts : A.tmps.size = 143 := hA.slots
      simp [go_sem, hv26]
      exact hK _ _ (hA.c.alloc hsz (by omega) hno) trivial (fun _ _ _ _ h => wl_any h)
    · intro listed A W hA hno hr K hK
      have e26 : A.tmps[26]?.getD undef = .agg #[.int .u64 g2, .int .u32 e2, .int .u64 l2, .int .u64 v2, .slice A2 c2 p2, .slice B2 d2 q2] := slot_is (hA.val 2 _ rfl (hr ⟨2, .data⟩ (by simp) rfl))
      have hsz := hA.size
      simp at hsz
      have h20 := hr ⟨5, .data⟩ (by simp) rfl
      obtain ⟨b, hs6, hbH, hB⟩ := hA.c.blk h20
      refine wp_store_row _ (.tmp 7) (.tmp 26) rfl b (csC g2 e2 l2 v2 A2 c2 p2 B2 d2 q2) hs6 ((hA.val 2 _ rfl (hr ⟨2, .data⟩ (by simp) rfl))) _ _ hB info_c (by split <;> rfl) (csC_one _ _ _ _ _ _ _ _ _ _) ?_
      exact hK undef _ (hA.c.store hsz h20 hq1 hs6) trivial (fun _ _ _ _ h => wl_any h)
    · intro listed A W hA hno hr K hK
      have e28 : A.tmps[28]?.getD undef = .int .u8 t2 := slot_is (hA.val 4 _ rfl (hr ⟨4, .data⟩ (by simp) rfl))
      simp [go_sem, e28]
      exact hK _ _ (hA.c.step _ _ _ (by decide) (by decide) (by decide) (Below.refl _ _)) rfl (fun _ _ _ _ h => h)
  · intro A W hA
    obtain ⟨b, s7, hbH, hB⟩ := hA.c.blk (by simp)
    rw [if_pos (by simp)] at hB
    have s8 : A.tmps.getD 8 undef = .int .u8 t2 := hA.val 7 _ rfl rfl
    have s3 : A.tmps.getD 3 undef = .pointer (some ⟨w.heap.size, 0, none⟩) := (hA.kept 3 (Free.not_dst (by kernel_rfl))).trans rfl
    have s4 : A.tmps.getD 4 undef = .pointer (some ⟨w.heap.size + 1, 0, none⟩) := (hA.kept 4 (Free.not_dst (by kernel_rfl))).trans rfl
    have hsz := hA.slots
    have hde := hA.defers
    replace B := hA.c.b
    replace K0 := hA.c.k0
    replace K1 := hA.c.k1
    have K2b := hB
    clear hA hB K2 C2 hv26 HH z0 z1
    obtain ⟨tm, de⟩ := A
    simp only at s7 s8 s3 s4 hsz hde
    obtain ⟨y, hy, ee⟩ := arrF143 hsz
    have t3 : y 3 = .pointer (some ⟨w.heap.size, 0, none⟩) := (hy _).symm.trans s3
    have t4 : y 4 = .pointer (some ⟨w.heap.size + 1, 0, none⟩) := (hy _).symm.trans s4
    have t7 : y 7 = .pointer (some ⟨b, 0, none⟩) := (hy _).symm.trans s7
    have t8 : y 8 = .int .u8 t2 := (hy _).symm.trans s8
    rw [t3, t4, t7, t8] at ee
    clear hy s3 s4 s7 s8 hsz t3 t4 t7 t8
    subst ee hde
    have HK := Lib.hid K0
    go_wp2_with (with_reducible refine load_c rfl (.tmp 3) rfl (w.heap.size) rfl HK.out ?_)
    refine (E0.out _ B).mono ?_
    rintro e' w1 ⟨rfl, hb⟩
    replace K0 := K0.later hb
    replace K1 := K1.later hb
    replace K2b := K2b.later hb
    replace B := Wd.Ge.trans B hb
    clear hb
    clear HK
    have HK := Lib.hid K1
    go_wp2_with (with_reducible refine load_c rfl (.tmp 4) rfl (w.heap.size + 1) rfl HK.out ?_)
    refine (E1.out _ B).mono ?_
    rintro e' w2 ⟨rfl, hb⟩
    replace K0 := K0.later hb
    replace K1 := K1.later hb
    replace K2b := K2b.later hb
    replace B := Wd.Ge.trans B hb
    clear hb
    clear HK
    have HK := Lib.hid K2b
    go_wp2_with (with_reducible refine load_c rfl (.tmp 7) rfl b rfl HK.out ?_)
    refine (E2.out _ B).mono ?_
    rintro e' w3 ⟨rfl, hb⟩
    replace K0 := K0.later hb
    replace K1 := K1.later hb
    replace K2b := K2b.later hb
    replace B := Wd.Ge.trans B hb
    clear hb
    clear HK E0 E1 E2
    have ca : w3.cell? ⟨w.heap.size, 0, none⟩ = some (.int .u64 g0) := K0.cell 0
    have cb : w3.cell? ⟨w.heap.size + 1, 0, none⟩ = some (.int .u64 g1) := K1.cell 0
    have cc : w3.cell? ⟨b, 0, none⟩ = some (.int .u64 g2) := K2b.cell 0
    rcases hy with rfl | rfl
    · have sz0 := hz0.out rfl
      have szi0 : (S0.size : Int) = 128 := by omega
      rcases HC.out with ⟨rfl, rfl⟩ | ⟨rfl, rfl⟩ | ⟨rfl, rfl⟩ | ⟨rfl, rfl, hgg⟩ | ⟨rfl, rfl, hgg, hy0, hga⟩ | ⟨rfl, rfl, hgg, hy0⟩
      · clear HC HT
        go_wp2_with fail
        refine (fixed_any _).mono ?_
        rintro e' w4 ⟨rfl, hb⟩
        go_wp2_with fail
        go_ret
        exact ⟨rfl, Wd.Ge.trans B hb⟩
      · clear HC HT
        have sz2 := hz2.out rfl
        have szi2 : (S2.size : Int) = 128 := by omega
        go_wp2_with fail
        refine (fixed_any _).mono ?_
        rintro e' w4 ⟨rfl, hb⟩
        go_wp2_with fail
        go_ret
        exact ⟨rfl, Wd.Ge.trans B hb⟩
      · clear HC HT
        go_wp2_with fail
        refine (fixed_any _).mono ?_
        rintro e' w4 ⟨rfl, hb⟩
        go_wp2_with fail
        go_ret
        exact ⟨rfl, Wd.Ge.trans B hb⟩
      · clear HC HT
        have sz2 := hz2.out rfl
        have szi2 : (S2.size : Int) = 128 := by omega
        go_wp2_with fail
        refine (fixed_any _).mono ?_
        rintro e' w4 ⟨rfl, hb⟩
        go_wp2_with fail
        go_ret
        exact ⟨rfl, Wd.Ge.trans B hb⟩
      · clear HC HT
        have sz2 := hz2.out rfl
        have szi2 : (S2.size : Int) = 128 := by omega
        clear hy0
        go_wp2_with fail
        refine (fixed_any _).mono ?_
        rintro e' w4 ⟨rfl, hb⟩
        go_wp2_with fail
        go_ret
        exact ⟨rfl, Wd.Ge.trans B hb⟩
      · have sz2 := hz2.out rfl
        have szi2 : (S2.size : Int) = 128 := by omega
        have hga : ¬ g1 ≤ g0 := by omega
        have HTc := Lib.hid (fun k hk M hM => let h := HT.out S0 (.inl ⟨rfl, rfl⟩) k hk M hM; (⟨h.1, fun hh => h.2.1 hh ⟨rfl, rfl, by omega, .inr ⟨rfl, by omega⟩⟩, fun hh => h.2.2 hh ⟨rfl, rfl, by omega, .inr ⟨rfl, by omega⟩⟩⟩ : M.size ≤ maxLen ∧ (M = S2 → bestC M.data.toList S1.data.toList = (⟨g2, e2, l2, v2, o2.take 20, n2.take 20⟩ : Chk) ∧ bestI M.data.toList S1.data.toList = 0 ∧ bestE M.data.toList S1.data.toList = 0) ∧ (M ≠ S2 → bestC M.data.toList S1.data.toList = (⟨g1, e1, l1, v1, o1.take 20, n1.take 20⟩ : Chk) ∧ bestI M.data.toList S1.data.toList = 1 ∧ bestE M.data.toList S1.data.toList = 0)))
        clear hy0 HC HT
        go_wp2_with fail
        obtain ⟨k, hk⟩ : ∃ k : Nat, t2 % 129 = (k : Int) := ⟨(t2 % 129).toNat, by omega⟩
        have hk8 : k ≤ 128 := by omega
        have hk8i : (k : Int) ≤ 128 := by omega
        rw [hk]
        obtain ⟨X1, x1⟩ : ∃ X, S2.extract 0 k = X := ⟨_, rfl⟩
        obtain ⟨X2, x2⟩ : ∃ X, S0.extract k 128 = X := ⟨_, rfl⟩
        obtain ⟨M, xm⟩ : ∃ M, X1 ++ X2 = M := ⟨_, rfl⟩
        have z1 : X1.size = k := by rw [← x1, ByteArray.size_extract]; omega
        have z2 : X2.size = 128 - k := by rw [← x2, ByteArray.size_extract]; omega
        have zz : ¬ 9223372036854775807 < X1.size + X2.size := by omega
        obtain ⟨mM, t1, tn⟩ := HTc.out k hk8 M (by
          rw [← xm, ← x1, ← x2, ByteArray.data_append, Array.toList_append, ext_at, ext_at, List.drop_zero, List.take_of_length_le (l := S0.data.toList) (by rw [← Go.Lib.size_eq]; omega)])
        have DD := Lib.hid (fun w => best_any M S1 w mM hm1s)
        have QM := Lib.hid t1
        have QN := Lib.hid tn
        clear t1 tn z1 z2 hk
        go_region
        replace B : Below w.heap.size w w3.drew := Wd.Ge.trans B (below_drawn w3)
        replace K1 := blk_drew K1
        replace K2b := blk_drew K2b
        clear ca cb cc
        go_wp2_with fail
        by_cases hM : M = S2
        · have be := Lib.hid (QM.out hM)
          have hq : (M.toList == S2.toList) = true := by rw [hM, eq_self]
          clear hM QM QN
          refine (DD.out _).mono ?_
          rintro e' u5 ⟨hb, x, rfl, hx⟩
          replace K1 := K1.later hb
          replace K2b := K2b.later hb
          replace B := Wd.Ge.trans B hb
          clear hb
          rw [be.out.1] at hx
          obtain ⟨A5, m5, p5, B5, k5, q5, rfl, sa5, sb5, _⟩ := hx
          rw [be.out.2.1, be.out.2.2]
          dsimp only at sa5 sb5 ⊢
          have F5 : Blk (u5.alloc (.cells #[.int .u64 0, .int .u32 0, .int .u64 0, .int .u64 0, .slice none 0 0, .slice none 0 0] 26)) u5.heap.size 26 (csC 0 0 0 0 none 0 0 none 0 0) := Blk.new u5 26 _
          go_upto_region 14 with (with_reducible refine store_c rfl (.tmp 17) (.tmp 105) rfl u5.heap.size rfl rfl F5 ?_; rw [World.setRow_alloc_new])
          have K5 : Blk (u5.alloc (.cells (csC g2 e2 l2 v2 A5 m5 p5 B5 k5 q5) 26)) u5.heap.size 26 (csC g2 e2 l2 v2 A5 m5 p5 B5 k5 q5) := Blk.new _ _ _
          have hb := below1 u5 (.cells (csC g2 e2 l2 v2 A5 m5 p5 B5 k5 q5) 26)
          replace sa5 := sa5.later hb
          replace sb5 := sb5.later hb
          replace K1 := K1.later hb
          replace K2b := K2b.later hb
          replace B := Wd.Ge.trans B hb
          clear hb
          clear F5
          generalize u5.alloc (.cells (csC g2 e2 l2 v2 A5 m5 p5 B5 k5 q5) 26) = y5 at *
          generalize u5.heap.size = b5 at *
          have m5l : m5 ≤ maxLen := by rw [sa5.len, List.length_take]; unfold maxLen; omega
          have k5l : k5 ≤ maxLen := by rw [sb5.len, List.length_take]; unfold maxLen; omega
          have I : Its w [(b, csC g2 e2 l2 v2 A2 c2 p2 B2 d2 q2), (b5, csC g2 e2 l2 v2 A5 m5 p5 B5 k5 q5)] [(A5, m5, o2.take 20), (B5, k5, n2.take 20)] y5 := (((Its.nil B).cons K5).cons K2b).scons sb5 |>.scons sa5
          have hne : Nonempty (In (Its w [(b, csC g2 e2 l2 v2 A2 c2 p2 B2 d2 q2), (b5, csC g2 e2 l2 v2 A5 m5 p5 B5 k5 q5)] [(A5, m5, o2.take 20), (B5, k5, n2.take 20)])) := ⟨⟨_, I⟩⟩
          have fa0 : ∀ j : In (Its w [(b, csC g2 e2 l2 v2 A2 c2 p2 B2 d2 q2), (b5, csC g2 e2 l2 v2 A5 m5 p5 B5 k5 q5)] [(A5, m5, o2.take 20), (B5, k5, n2.take 20)]), j.W.cell? ⟨b, 0, none⟩ = some (.int .u64 g2) := fun j => (j.h.at_ 0 rfl).cell 0
          have fa1 : ∀ j : In (Its w [(b, csC g2 e2 l2 v2 A2 c2 p2 B2 d2 q2), (b5, csC g2 e2 l2 v2 A5 m5 p5 B5 k5 q5)] [(A5, m5, o2.take 20), (B5, k5, n2.take 20)]), j.W.cell? ⟨b, 1, none⟩ = some (.int .u32 e2) := fun j => (j.h.at_ 0 rfl).cell 1
          have fa2 : ∀ j : In (Its w [(b, csC g2 e2 l2 v2 A2 c2 p2 B2 d2 q2), (b5, csC g2 e2 l2 v2 A5 m5 p5 B5 k5 q5)] [(A5, m5, o2.take 20), (B5, k5, n2.take 20)]), j.W.cell? ⟨b, 2, none⟩ = some (.int .u64 l2) := fun j => (j.h.at_ 0 rfl).cell 2
          have fa3 : ∀ j : In (Its w [(b, csC g2 e2 l2 v2 A2 c2 p2 B2 d2 q2), (b5, csC g2 e2 l2 v2 A5 m5 p5 B5 k5 q5)] [(A5, m5, o2.take 20), (B5, k5, n2.take 20)]), j.W.cell? ⟨b, 3, none⟩ = some (.int .u64 v2) := fun j => (j.h.at_ 0 rfl).cell 3
          have fa4 : ∀ j : In (Its w [(b, csC g2 e2 l2 v2 A2 c2 p2 B2 d2 q2), (b5, csC g2 e2 l2 v2 A5 m5 p5 B5 k5 q5)] [(A5, m5, o2.take 20), (B5, k5, n2.take 20)]), j.W.cell? ⟨b, 4, none⟩ = some (.slice A2 c2 p2) := fun j => (j.h.at_ 0 rfl).cell 4
          have fa5 : ∀ j : In (Its w [(b, csC g2 e2 l2 v2 A2 c2 p2 B2 d2 q2), (b5, csC g2 e2 l2 v2 A5 m5 p5 B5 k5 q5)] [(A5, m5, o2.take 20), (B5, k5, n2.take 20)]), j.W.cell? ⟨b, 5, none⟩ = some (.slice B2 d2 q2) := fun j => (j.h.at_ 0 rfl).cell 5
          have fx0 : ∀ j : In (Its w [(b, csC g2 e2 l2 v2 A2 c2 p2 B2 d2 q2), (b5, csC g2 e2 l2 v2 A5 m5 p5 B5 k5 q5)] [(A5, m5, o2.take 20), (B5, k5, n2.take 20)]), j.W.cell? ⟨b5, 0, none⟩ = some (.int .u64 g2) := fun j => (j.h.at_ 1 rfl).cell 0
          have fx1 : ∀ j : In (Its w [(b, csC g2 e2 l2 v2 A2 c2 p2 B2 d2 q2), (b5, csC g2 e2 l2 v2 A5 m5 p5 B5 k5 q5)] [(A5, m5, o2.take 20), (B5, k5, n2.take 20)]), j.W.cell? ⟨b5, 1, none⟩ = some (.int .u32 e2) := fun j => (j.h.at_ 1 rfl).cell 1
          have fx2 : ∀ j : In (Its w [(b, csC g2 e2 l2 v2 A2 c2 p2 B2 d2 q2), (b5, csC g2 e2 l2 v2 A5 m5 p5 B5 k5 q5)] [(A5, m5, o2.take 20), (B5, k5, n2.take 20)]), j.W.cell? ⟨b5, 2, none⟩ = some (.int .u64 l2) := fun j => (j.h.at_ 1 rfl).cell 2
          have fx3 : ∀ j : In (Its w [(b, csC g2 e2 l2 v2 A2 c2 p2 B2 d2 q2), (b5, csC g2 e2 l2 v2 A5 m5 p5 B5 k5 q5)] [(A5, m5, o2.take 20), (B5, k5, n2.take 20)]), j.W.cell? ⟨b5, 3, none⟩ = some (.int .u64 v2) := fun j => (j.h.at_ 1 rfl).cell 3
          have fx4 : ∀ j : In (Its w [(b, csC g2 e2 l2 v2 A2 c2 p2 B2 d2 q2), (b5, csC g2 e2 l2 v2 A5 m5 p5 B5 k5 q5)] [(A5, m5, o2.take 20), (B5, k5, n2.take 20)]), j.W.cell? ⟨b5, 4, none⟩ = some (.slice A5 m5 p5) := fun j => (j.h.at_ 1 rfl).cell 4
          have fx5 : ∀ j : In (Its w [(b, csC g2 e2 l2 v2 A2 c2 p2 B2 d2 q2), (b5, csC g2 e2 l2 v2 A5 m5 p5 B5 k5 q5)] [(A5, m5, o2.take 20), (B5, k5, n2.take 20)]), j.W.cell? ⟨b5, 5, none⟩ = some (.slice B5 k5 q5) := fun j => (j.h.at_ 1 rfl).cell 5
          have SQ := Lib.hid (fun W (hi : Its w [(b, csC g2 e2 l2 v2 A2 c2 p2 B2 d2 q2), (b5, csC g2 e2 l2 v2 A5 m5 p5 B5 k5 q5)] [(A5, m5, o2.take 20), (B5, k5, n2.take 20)] W) => same_is g2 e2 l2 v2 A5 m5 p5 B5 k5 q5 g2 e2 l2 v2 A2 c2 p2 B2 d2 q2 (o2.take 20) (n2.take 20) (o2.take 20) (n2.take 20) true W (hi.sl 0 rfl) (hi.sl 1 rfl) (SA2.out.later hi.b) (SB2.out.later hi.b) m5l k5l (decide_eq_true rfl))
          have II := Lib.hid I
          clear I B K0 K1 K2b K5 sa5 sb5 DD be
          go_wp2_with fail
          refine region_class (Its w [(b, csC g2 e2 l2 v2 A2 c2 p2 B2 d2 q2), (b5, csC g2 e2 l2 v2 A5 m5 p5 B5 k5 q5)] [(A5, m5, o2.take 20), (B5, k5, n2.take 20)]) (by kernel_rfl) (by kernel_rfl) II.out.drawn ?_
          repeat (go_big_quiet_step (first
            | (go_at_call 12; with_reducible exact class_call _ (fun hi => its_ge hi (ref_any g2 e2 l2 v2 A5 m5 p5 B5 k5 q5 _)))
            | (go_at_call 12; with_reducible exact class_call _ (fun hi => its_ge hi (ref_any g2 e2 l2 v2 A2 c2 p2 B2 d2 q2 _)))
            | (go_at_call 19; with_reducible exact class_call _ (fun hi => its_ge hi (SQ.out _ hi)))
            | (go_at_call 20; with_reducible exact class_call _ (fun hi => its_ge hi (fixed_any _)))))
          refine wpQuiet_nil ?_
          rintro _ ⟨j, rfl⟩
          go_wp2_with fail
          go_ret
          exact ⟨rfl, j.h.b⟩
        · have be := Lib.hid (QN.out hM)
          have hq : (M.toList == S2.toList) = false := ne_str (fun hh => hM (bytes_ext hh))
          clear hM QM QN
          refine (DD.out _).mono ?_
          rintro e' u5 ⟨hb, x, rfl, hx⟩
          replace K1 := K1.later hb
          replace K2b := K2b.later hb
          replace B := Wd.Ge.trans B hb
          clear hb
          rw [be.out.1] at hx
          obtain ⟨A5, m5, p5, B5, k5, q5, rfl, sa5, sb5, _⟩ := hx
          rw [be.out.2.1, be.out.2.2]
          dsimp only at sa5 sb5 ⊢
          have F5 : Blk (u5.alloc (.cells #[.int .u64 0, .int .u32 0, .int .u64 0, .int .u64 0, .slice none 0 0, .slice none 0 0] 26)) u5.heap.size 26 (csC 0 0 0 0 none 0 0 none 0 0) := Blk.new u5 26 _
          go_upto_region 14 with (with_reducible refine store_c rfl (.tmp 17) (.tmp 105) rfl u5.heap.size rfl rfl F5 ?_; rw [World.setRow_alloc_new])
          have K5 : Blk (u5.alloc (.cells (csC g1 e1 l1 v1 A5 m5 p5 B5 k5 q5) 26)) u5.heap.size 26 (csC g1 e1 l1 v1 A5 m5 p5 B5 k5 q5) := Blk.new _ _ _
          have hb := below1 u5 (.cells (csC g1 e1 l1 v1 A5 m5 p5 B5 k5 q5) 26)
          replace sa5 := sa5.later hb
          replace sb5 := sb5.later hb
          replace K1 := K1.later hb
          replace K2b := K2b.later hb
          replace B := Wd.Ge.trans B hb
          clear hb
          clear F5
          generalize u5.alloc (.cells (csC g1 e1 l1 v1 A5 m5 p5 B5 k5 q5) 26) = y5 at *
          generalize u5.heap.size = b5 at *
          have m5l : m5 ≤ maxLen := by rw [sa5.len, List.length_take]; unfold maxLen; omega
          have k5l : k5 ≤ maxLen := by rw [sb5.len, List.length_take]; unfold maxLen; omega
          have I : Its w [(w.heap.size + 1, csC g1 e1 l1 v1 A1 c1 p1 B1 d1 q1), (b5, csC g1 e1 l1 v1 A5 m5 p5 B5 k5 q5)] [(A5, m5, o1.take 20), (B5, k5, n1.take 20)] y5 := (((Its.nil B).cons K5).cons K1).scons sb5 |>.scons sa5
          have hne : Nonempty (In (Its w [(w.heap.size + 1, csC g1 e1 l1 v1 A1 c1 p1 B1 d1 q1), (b5, csC g1 e1 l1 v1 A5 m5 p5 B5 k5 q5)] [(A5, m5, o1.take 20), (B5, k5, n1.take 20)])) := ⟨⟨_, I⟩⟩
          have fa0 : ∀ j : In (Its w [(w.heap.size + 1, csC g1 e1 l1 v1 A1 c1 p1 B1 d1 q1), (b5, csC g1 e1 l1 v1 A5 m5 p5 B5 k5 q5)] [(A5, m5, o1.take 20), (B5, k5, n1.take 20)]), j.W.cell? ⟨w.heap.size + 1, 0, none⟩ = some (.int .u64 g1) := fun j => (j.h.at_ 0 rfl).cell 0
          have fa1 : ∀ j : In (Its w [(w.heap.size + 1, csC g1 e1 l1 v1 A1 c1 p1 B1 d1 q1), (b5, csC g1 e1 l1 v1 A5 m5 p5 B5 k5 q5)] [(A5, m5, o1.take 20), (B5, k5, n1.take 20)]), j.W.cell? ⟨w.heap.size + 1, 1, none⟩ = some (.int .u32 e1) := fun j => (j.h.at_ 0 rfl).cell 1
          have fa2 : ∀ j : In (Its w [(w.heap.size + 1, csC g1 e1 l1 v1 A1 c1 p1 B1 d1 q1), (b5, csC g1 e1 l1 v1 A5 m5 p5 B5 k5 q5)] [(A5, m5, o1.take 20), (B5, k5, n1.take 20)]), j.W.cell? ⟨w.heap.size + 1, 2, none⟩ = some (.int .u64 l1) := fun j => (j.h.at_ 0 rfl).cell 2
          have fa3 : ∀ j : In (Its w [(w.heap.size + 1, csC g1 e1 l1 v1 A1 c1 p1 B1 d1 q1), (b5, csC g1 e1 l1 v1 A5 m5 p5 B5 k5 q5)] [(A5, m5, o1.take 20), (B5, k5, n1.take 20)]), j.W.cell? ⟨w.heap.size + 1, 3, none⟩ = some (.int .u64 v1) := fun j => (j.h.at_ 0 rfl).cell 3
          have fa4 : ∀ j : In (Its w [(w.heap.size + 1, csC g1 e1 l1 v1 A1 c1 p1 B1 d1 q1), (b5, csC g1 e1 l1 v1 A5 m5 p5 B5 k5 q5)] [(A5, m5, o1.take 20), (B5, k5, n1.take 20)]), j.W.cell? ⟨w.heap.size + 1, 4, none⟩ = some (.slice A1 c1 p1) := fun j => (j.h.at_ 0 rfl).cell 4
          have fa5 : ∀ j : In (Its w [(w.heap.size + 1, csC g1 e1 l1 v1 A1 c1 p1 B1 d1 q1), (b5, csC g1 e1 l1 v1 A5 m5 p5 B5 k5 q5)] [(A5, m5, o1.take 20), (B5, k5, n1.take 20)]), j.W.cell? ⟨w.heap.size + 1, 5, none⟩ = some (.slice B1 d1 q1) := fun j => (j.h.at_ 0 rfl).cell 5
          have fx0 : ∀ j : In (Its w [(w.heap.size + 1, csC g1 e1 l1 v1 A1 c1 p1 B1 d1 q1), (b5, csC g1 e1 l1 v1 A5 m5 p5 B5 k5 q5)] [(A5, m5, o1.take 20), (B5, k5, n1.take 20)]), j.W.cell? ⟨b5, 0, none⟩ = some (.int .u64 g1) := fun j => (j.h.at_ 1 rfl).cell 0
          have fx1 : ∀ j : In (Its w [(w.heap.size + 1, csC g1 e1 l1 v1 A1 c1 p1 B1 d1 q1), (b5, csC g1 e1 l1 v1 A5 m5 p5 B5 k5 q5)] [(A5, m5, o1.take 20), (B5, k5, n1.take 20)]), j.W.cell? ⟨b5, 1, none⟩ = some (.int .u32 e1) := fun j => (j.h.at_ 1 rfl).cell 1
          have fx2 : ∀ j : In (Its w [(w.heap.size + 1, csC g1 e1 l1 v1 A1 c1 p1 B1 d1 q1), (b5, csC g1 e1 l1 v1 A5 m5 p5 B5 k5 q5)] [(A5, m5, o1.take 20), (B5, k5, n1.take 20)]), j.W.cell? ⟨b5, 2, none⟩ = some (.int .u64 l1) := fun j => (j.h.at_ 1 rfl).cell 2
          have fx3 : ∀ j : In (Its w [(w.heap.size + 1, csC g1 e1 l1 v1 A1 c1 p1 B1 d1 q1), (b5, csC g1 e1 l1 v1 A5 m5 p5 B5 k5 q5)] [(A5, m5, o1.take 20), (B5, k5, n1.take 20)]), j.W.cell? ⟨b5, 3, none⟩ = some (.int .u64 v1) := fun j => (j.h.at_ 1 rfl).cell 3
          have fx4 : ∀ j : In (Its w [(w.heap.size + 1, csC g1 e1 l1 v1 A1 c1 p1 B1 d1 q1), (b5, csC g1 e1 l1 v1 A5 m5 p5 B5 k5 q5)] [(A5, m5, o1.take 20), (B5, k5, n1.take 20)]), j.W.cell? ⟨b5, 4, none⟩ = some (.slice A5 m5 p5) := fun j => (j.h.at_ 1 rfl).cell 4
          have fx5 : ∀ j : In (Its w [(w.heap.size + 1, csC g1 e1 l1 v1 A1 c1 p1 B1 d1 q1), (b5, csC g1 e1 l1 v1 A5 m5 p5 B5 k5 q5)] [(A5, m5, o1.take 20), (B5, k5, n1.take 20)]), j.W.cell? ⟨b5, 5, none⟩ = some (.slice B5 k5 q5) := fun j => (j.h.at_ 1 rfl).cell 5
          have SQ := Lib.hid (fun W (hi : Its w [(w.heap.size + 1, csC g1 e1 l1 v1 A1 c1 p1 B1 d1 q1), (b5, csC g1 e1 l1 v1 A5 m5 p5 B5 k5 q5)] [(A5, m5, o1.take 20), (B5, k5, n1.take 20)] W) => same_is g1 e1 l1 v1 A5 m5 p5 B5 k5 q5 g1 e1 l1 v1 A1 c1 p1 B1 d1 q1 (o1.take 20) (n1.take 20) (o1.take 20) (n1.take 20) true W (hi.sl 0 rfl) (hi.sl 1 rfl) (SA1.out.later hi.b) (SB1.out.later hi.b) m5l k5l (decide_eq_true rfl))
          have II := Lib.hid I
          clear I B K0 K1 K2b K5 sa5 sb5 DD be
          go_wp2_with fail
          refine region_class (Its w [(w.heap.size + 1, csC g1 e1 l1 v1 A1 c1 p1 B1 d1 q1), (b5, csC g1 e1 l1 v1 A5 m5 p5 B5 k5 q5)] [(A5, m5, o1.take 20), (B5, k5, n1.take 20)]) (by kernel_rfl) (by kernel_rfl) II.out.drawn ?_
          repeat (go_big_quiet_step (first
            | (go_at_call 12; with_reducible exact class_call _ (fun hi => its_ge hi (ref_any g1 e1 l1 v1 A5 m5 p5 B5 k5 q5 _)))
            | (go_at_call 12; with_reducible exact class_call _ (fun hi => its_ge hi (ref_any g1 e1 l1 v1 A1 c1 p1 B1 d1 q1 _)))
            | (go_at_call 19; with_reducible exact class_call _ (fun hi => its_ge hi (SQ.out _ hi)))
            | (go_at_call 20; with_reducible exact class_call _ (fun hi => its_ge hi (fixed_any _)))))
          refine wpQuiet_nil ?_
          rintro _ ⟨j, rfl⟩
          go_wp2_with fail
          go_ret
          exact ⟨rfl, j.h.b⟩
    · skip
      rcases HC.out with ⟨rfl, rfl⟩ | ⟨rfl, rfl⟩ | ⟨rfl, rfl⟩ | ⟨rfl, rfl, hgg⟩ | ⟨rfl, rfl, hgg, hy0, hga⟩ | ⟨rfl, rfl, hgg, hy0⟩
      · clear HC HT
        go_wp2_with fail
        refine (zero_any _).mono ?_
        rintro e' w4 ⟨rfl, rfl⟩
        have sz0 : (zeroTo 128).size = 128 := zeroTo_size 128
        have szi0 : ((zeroTo 128).size : Int) = 128 := by omega
        go_wp2_with fail
        refine (fixed_any _).mono ?_
        rintro e' w4 ⟨rfl, hb⟩
        go_wp2_with fail
        go_ret
        exact ⟨rfl, Wd.Ge.trans B hb⟩
      · clear HC HT
        have sz2 := hz2.out rfl
        have szi2 : (S2.size : Int) = 128 := by omega
        go_wp2_with fail
        refine (zero_any _).mono ?_
        rintro e' w4 ⟨rfl, rfl⟩
        have sz0 : (zeroTo 128).size = 128 := zeroTo_size 128
        have szi0 : ((zeroTo 128).size : Int) = 128 := by omega
        go_wp2_with fail
        refine (fixed_any _).mono ?_
        rintro e' w4 ⟨rfl, hb⟩
        go_wp2_with fail
        go_ret
        exact ⟨rfl, Wd.Ge.trans B hb⟩
      · clear HC HT
        go_wp2_with fail
        refine (zero_any _).mono ?_
        rintro e' w4 ⟨rfl, rfl⟩
        have sz0 : (zeroTo 128).size = 128 := zeroTo_size 128
        have szi0 : ((zeroTo 128).size : Int) = 128 := by omega
        go_wp2_with fail
        refine (fixed_any _).mono ?_
        rintro e' w4 ⟨rfl, hb⟩
        go_wp2_with fail
        go_ret
        exact ⟨rfl, Wd.Ge.trans B hb⟩
      · clear HC HT
        have sz2 := hz2.out rfl
        have szi2 : (S2.size : Int) = 128 := by omega
        go_wp2_with fail
        refine (zero_any _).mono ?_
        rintro e' w4 ⟨rfl, rfl⟩
        have sz0 : (zeroTo 128).size = 128 := zeroTo_size 128
        have szi0 : ((zeroTo 128).size : Int) = 128 := by omega
        go_wp2_with fail
        refine (fixed_any _).mono ?_
        rintro e' w4 ⟨rfl, hb⟩
        go_wp2_with fail
        go_ret
        exact ⟨rfl, Wd.Ge.trans B hb⟩
      · exact absurd hy0 (by decide)
      · have sz2 := hz2.out rfl
        have szi2 : (S2.size : Int) = 128 := by omega
        have HTc := Lib.hid (fun k hk M hM => let h := HT.out (zeroTo 128) (.inr ⟨rfl, rfl⟩) k hk M hM; (⟨h.1, fun hh => h.2.1 hh ⟨rfl, rfl, by omega, .inl rfl⟩, fun hh => h.2.2 hh ⟨rfl, rfl, by omega, .inl rfl⟩⟩ : M.size ≤ maxLen ∧ (M = S2 → bestC M.data.toList S1.data.toList = (⟨g2, e2, l2, v2, o2.take 20, n2.take 20⟩ : Chk) ∧ bestI M.data.toList S1.data.toList = 0 ∧ bestE M.data.toList S1.data.toList = 0) ∧ (M ≠ S2 → bestC M.data.toList S1.data.toList = (⟨g1, e1, l1, v1, o1.take 20, n1.take 20⟩ : Chk) ∧ bestI M.data.toList S1.data.toList = 1 ∧ bestE M.data.toList S1.data.toList = 0)))
        clear hy0 HC HT
        go_wp2_with fail
        refine (zero_any _).mono ?_
        rintro e' w4 ⟨rfl, rfl⟩
        have sz0 : (zeroTo 128).size = 128 := zeroTo_size 128
        have szi0 : ((zeroTo 128).size : Int) = 128 := by omega
        go_wp2_with fail
        obtain ⟨k, hk⟩ : ∃ k : Nat, t2 % 129 = (k : Int) := ⟨(t2 % 129).toNat, by omega⟩
        have hk8 : k ≤ 128 := by omega
        have hk8i : (k : Int) ≤ 128 := by omega
        rw [hk]
        obtain ⟨X1, x1⟩ : ∃ X, S2.extract 0 k = X := ⟨_, rfl⟩
        obtain ⟨X2, x2⟩ : ∃ X, (zeroTo 128).extract k 128 = X := ⟨_, rfl⟩
        obtain ⟨M, xm⟩ : ∃ M, X1 ++ X2 = M := ⟨_, rfl⟩
        have z1 : X1.size = k := by rw [← x1, ByteArray.size_extract]; omega
        have z2 : X2.size = 128 - k := by rw [← x2, ByteArray.size_extract]; omega
        have zz : ¬ 9223372036854775807 < X1.size + X2.size := by omega
        obtain ⟨mM, t1, tn⟩ := HTc.out k hk8 M (by
          rw [← xm, ← x1, ← x2, ByteArray.data_append, Array.toList_append, ext_at, ext_at, List.drop_zero, List.take_of_length_le (l := (zeroTo 128).data.toList) (by rw [← Go.Lib.size_eq]; omega)])
        have DD := Lib.hid (fun w => best_any M S1 w mM hm1s)
        have QM := Lib.hid t1
        have QN := Lib.hid tn
        clear t1 tn z1 z2 hk
        go_region
        replace B : Below w.heap.size w w3.drew := Wd.Ge.trans B (below_drawn w3)
        replace K1 := blk_drew K1
        replace K2b := blk_drew K2b
        clear ca cb cc
        go_wp2_with fail
        by_cases hM : M = S2
        · have be := Lib.hid (QM.out hM)
          have hq : (M.toList == S2.toList) = true := by rw [hM, eq_self]
          clear hM QM QN
          refine (DD.out _).mono ?_
          rintro e' u5 ⟨hb, x, rfl, hx⟩
          replace K1 := K1.later hb
          replace K2b := K2b.later hb
          replace B := Wd.Ge.trans B hb
          clear hb
          rw [be.out.1] at hx
          obtain ⟨A5, m5, p5, B5, k5, q5, rfl, sa5, sb5, _⟩ := hx
          rw [be.out.2.1, be.out.2.2]
          dsimp only at sa5 sb5 ⊢
          have F5 : Blk (u5.alloc (.cells #[.int .u64 0, .int .u32 0, .int .u64 0, .int .u64 0, .slice none 0 0, .slice none 0 0] 26)) u5.heap.size 26 (csC 0 0 0 0 none 0 0 none 0 0) := Blk.new u5 26 _
          go_upto_region 14 with (with_reducible refine store_c rfl (.tmp 17) (.tmp 105) rfl u5.heap.size rfl rfl F5 ?_; rw [World.setRow_alloc_new])
          have K5 : Blk (u5.alloc (.cells (csC g2 e2 l2 v2 A5 m5 p5 B5 k5 q5) 26)) u5.heap.size 26 (csC g2 e2 l2 v2 A5 m5 p5 B5 k5 q5) := Blk.new _ _ _
          have hb := below1 u5 (.cells (csC g2 e2 l2 v2 A5 m5 p5 B5 k5 q5) 26)
          replace sa5 := sa5.later hb
          replace sb5 := sb5.later hb
          replace K1 := K1.later hb
          replace K2b := K2b.later hb
          replace B := Wd.Ge.trans B hb
          clear hb
          clear F5
          generalize u5.alloc (.cells (csC g2 e2 l2 v2 A5 m5 p5 B5 k5 q5) 26) = y5 at *
          generalize u5.heap.size = b5 at *
          have m5l : m5 ≤ maxLen := by rw [sa5.len, List.length_take]; unfold maxLen; omega
          have k5l : k5 ≤ maxLen := by rw [sb5.len, List.length_take]; unfold maxLen; omega
          have I : Its w [(b, csC g2 e2 l2 v2 A2 c2 p2 B2 d2 q2), (b5, csC g2 e2 l2 v2 A5 m5 p5 B5 k5 q5)] [(A5, m5, o2.take 20), (B5, k5, n2.take 20)] y5 := (((Its.nil B).cons K5).cons K2b).scons sb5 |>.scons sa5
          have hne : Nonempty (In (Its w [(b, csC g2 e2 l2 v2 A2 c2 p2 B2 d2 q2), (b5, csC g2 e2 l2 v2 A5 m5 p5 B5 k5 q5)] [(A5, m5, o2.take 20), (B5, k5, n2.take 20)])) := ⟨⟨_, I⟩⟩
          have fa0 : ∀ j : In (Its w [(b, csC g2 e2 l2 v2 A2 c2 p2 B2 d2 q2), (b5, csC g2 e2 l2 v2 A5 m5 p5 B5 k5 q5)] [(A5, m5, o2.take 20), (B5, k5, n2.take 20)]), j.W.cell? ⟨b, 0, none⟩ = some (.int .u64 g2) := fun j => (j.h.at_ 0 rfl).cell 0
          have fa1 : ∀ j : In (Its w [(b, csC g2 e2 l2 v2 A2 c2 p2 B2 d2 q2), (b5, csC g2 e2 l2 v2 A5 m5 p5 B5 k5 q5)] [(A5, m5, o2.take 20), (B5, k5, n2.take 20)]), j.W.cell? ⟨b, 1, none⟩ = some (.int .u32 e2) := fun j => (j.h.at_ 0 rfl).cell 1
          have fa2 : ∀ j : In (Its w [(b, csC g2 e2 l2 v2 A2 c2 p2 B2 d2 q2), (b5, csC g2 e2 l2 v2 A5 m5 p5 B5 k5 q5)] [(A5, m5, o2.take 20), (B5, k5, n2.take 20)]), j.W.cell? ⟨b, 2, none⟩ = some (.int .u64 l2) := fun j => (j.h.at_ 0 rfl).cell 2
          have fa3 : ∀ j : In (Its w [(b, csC g2 e2 l2 v2 A2 c2 p2 B2 d2 q2), (b5, csC g2 e2 l2 v2 A5 m5 p5 B5 k5 q5)] [(A5, m5, o2.take 20), (B5, k5, n2.take 20)]), j.W.cell? ⟨b, 3, none⟩ = some (.int .u64 v2) := fun j => (j.h.at_ 0 rfl).cell 3
          have fa4 : ∀ j : In (Its w [(b, csC g2 e2 l2 v2 A2 c2 p2 B2 d2 q2), (b5, csC g2 e2 l2 v2 A5 m5 p5 B5 k5 q5)] [(A5, m5, o2.take 20), (B5, k5, n2.take 20)]), j.W.cell? ⟨b, 4, none⟩ = some (.slice A2 c2 p2) := fun j => (j.h.at_ 0 rfl).cell 4
          have fa5 : ∀ j : In (Its w [(b, csC g2 e2 l2 v2 A2 c2 p2 B2 d2 q2), (b5, csC g2 e2 l2 v2 A5 m5 p5 B5 k5 q5)] [(A5, m5, o2.take 20), (B5, k5, n2.take 20)]), j.W.cell? ⟨b, 5, none⟩ = some (.slice B2 d2 q2) := fun j => (j.h.at_ 0 rfl).cell 5
          have fx0 : ∀ j : In (Its w [(b, csC g2 e2 l2 v2 A2 c2 p2 B2 d2 q2), (b5, csC g2 e2 l2 v2 A5 m5 p5 B5 k5 q5)] [(A5, m5, o2.take 20), (B5, k5, n2.take 20)]), j.W.cell? ⟨b5, 0, none⟩ = some (.int .u64 g2) := fun j => (j.h.at_ 1 rfl).cell 0
          have fx1 : ∀ j : In (Its w [(b, csC g2 e2 l2 v2 A2 c2 p2 B2 d2 q2), (b5, csC g2 e2 l2 v2 A5 m5 p5 B5 k5 q5)] [(A5, m5, o2.take 20), (B5, k5, n2.take 20)]), j.W.cell? ⟨b5, 1, none⟩ = some (.int .u32 e2) := fun j => (j.h.at_ 1 rfl).cell 1
          have fx2 : ∀ j : In (Its w [(b, csC g2 e2 l2 v2 A2 c2 p2 B2 d2 q2), (b5, csC g2 e2 l2 v2 A5 m5 p5 B5 k5 q5)] [(A5, m5, o2.take 20), (B5, k5, n2.take 20)]), j.W.cell? ⟨b5, 2, none⟩ = some (.int .u64 l2) := fun j => (j.h.at_ 1 rfl).cell 2
          have fx3 : ∀ j : In (Its w [(b, csC g2 e2 l2 v2 A2 c2 p2 B2 d2 q2), (b5, csC g2 e2 l2 v2 A5 m5 p5 B5 k5 q5)] [(A5, m5, o2.take 20), (B5, k5, n2.take 20)]), j.W.cell? ⟨b5, 3, none⟩ = some (.int .u64 v2) := fun j => (j.h.at_ 1 rfl).cell 3
          have fx4 : ∀ j : In (Its w [(b, csC g2 e2 l2 v2 A2 c2 p2 B2 d2 q2), (b5, csC g2 e2 l2 v2 A5 m5 p5 B5 k5 q5)] [(A5, m5, o2.take 20), (B5, k5, n2.take 20)]), j.W.cell? ⟨b5, 4, none⟩ = some (.slice A5 m5 p5) := fun j => (j.h.at_ 1 rfl).cell 4
          have fx5 : ∀ j : In (Its w [(b, csC g2 e2 l2 v2 A2 c2 p2 B2 d2 q2), (b5, csC g2 e2 l2 v2 A5 m5 p5 B5 k5 q5)] [(A5, m5, o2.take 20), (B5, k5, n2.take 20)]), j.W.cell? ⟨b5, 5, none⟩ = some (.slice B5 k5 q5) := fun j => (j.h.at_ 1 rfl).cell 5
          have SQ := Lib.hid (fun W (hi : Its w [(b, csC g2 e2 l2 v2 A2 c2 p2 B2 d2 q2), (b5, csC g2 e2 l2 v2 A5 m5 p5 B5 k5 q5)] [(A5, m5, o2.take 20), (B5, k5, n2.take 20)] W) => same_is g2 e2 l2 v2 A5 m5 p5 B5 k5 q5 g2 e2 l2 v2 A2 c2 p2 B2 d2 q2 (o2.take 20) (n2.take 20) (o2.take 20) (n2.take 20) true W (hi.sl 0 rfl) (hi.sl 1 rfl) (SA2.out.later hi.b) (SB2.out.later hi.b) m5l k5l (decide_eq_true rfl))
          have II := Lib.hid I
          clear I B K0 K1 K2b K5 sa5 sb5 DD be
          go_wp2_with fail
          refine region_class (Its w [(b, csC g2 e2 l2 v2 A2 c2 p2 B2 d2 q2), (b5, csC g2 e2 l2 v2 A5 m5 p5 B5 k5 q5)] [(A5, m5, o2.take 20), (B5, k5, n2.take 20)]) (by kernel_rfl) (by kernel_rfl) II.out.drawn ?_
          repeat (go_big_quiet_step (first
            | (go_at_call 12; with_reducible exact class_call _ (fun hi => its_ge hi (ref_any g2 e2 l2 v2 A5 m5 p5 B5 k5 q5 _)))
            | (go_at_call 12; with_reducible exact class_call _ (fun hi => its_ge hi (ref_any g2 e2 l2 v2 A2 c2 p2 B2 d2 q2 _)))
            | (go_at_call 19; with_reducible exact class_call _ (fun hi => its_ge hi (SQ.out _ hi)))
            | (go_at_call 20; with_reducible exact class_call _ (fun hi => its_ge hi (fixed_any _)))))
          refine wpQuiet_nil ?_
          rintro _ ⟨j, rfl⟩
          go_wp2_with fail
          go_ret
          exact ⟨rfl, j.h.b⟩
        · have be := Lib.hid (QN.out hM)
          have hq : (M.toList == S2.toList) = false := ne_str (fun hh => hM (bytes_ext hh))
          clear hM QM QN
          refine (DD.out _).mono ?_
          rintro e' u5 ⟨hb, x, rfl, hx⟩
          replace K1 := K1.later hb
          replace K2b := K2b.later hb
          replace B := Wd.Ge.trans B hb
          clear hb
          rw [be.out.1] at hx
          obtain ⟨A5, m5, p5, B5, k5, q5, rfl, sa5, sb5, _⟩ := hx
          rw [be.out.2.1, be.out.2.2]
          dsimp only at sa5 sb5 ⊢
          have F5 : Blk (u5.alloc (.cells #[.int .u64 0, .int .u32 0, .int .u64 0, .int .u64 0, .slice none 0 0, .slice none 0 0] 26)) u5.heap.size 26 (csC 0 0 0 0 none 0 0 none 0 0) := Blk.new u5 26 _
          go_upto_region 14 with (with_reducible refine store_c rfl (.tmp 17) (.tmp 105) rfl u5.heap.size rfl rfl F5 ?_; rw [World.setRow_alloc_new])
          have K5 : Blk (u5.alloc (.cells (csC g1 e1 l1 v1 A5 m5 p5 B5 k5 q5) 26)) u5.heap.size 26 (csC g1 e1 l1 v1 A5 m5 p5 B5 k5 q5) := Blk.new _ _ _
          have hb := below1 u5 (.cells (csC g1 e1 l1 v1 A5 m5 p5 B5 k5 q5) 26)
          replace sa5 := sa5.later hb
          replace sb5 := sb5.later hb
          replace K1 := K1.later hb
          replace K2b := K2b.later hb
          replace B := Wd.Ge.trans B hb
          clear hb
          clear F5
          generalize u5.alloc (.cells (csC g1 e1 l1 v1 A5 m5 p5 B5 k5 q5) 26) = y5 at *
          generalize u5.heap.size = b5 at *
          have m5l : m5 ≤ maxLen := by rw [sa5.len, List.length_take]; unfold maxLen; omega
          have k5l : k5 ≤ maxLen := by rw [sb5.len, List.length_take]; unfold maxLen; omega
          have I : Its w [(w.heap.size + 1, csC g1 e1 l1 v1 A1 c1 p1 B1 d1 q1), (b5, csC g1 e1 l1 v1 A5 m5 p5 B5 k5 q5)] [(A5, m5, o1.take 20), (B5, k5, n1.take 20)] y5 := (((Its.nil B).cons K5).cons K1).scons sb5 |>.scons sa5
          have hne : Nonempty (In (Its w [(w.heap.size + 1, csC g1 e1 l1 v1 A1 c1 p1 B1 d1 q1), (b5, csC g1 e1 l1 v1 A5 m5 p5 B5 k5 q5)] [(A5, m5, o1.take 20), (B5, k5, n1.take 20)])) := ⟨⟨_, I⟩⟩
          have fa0 : ∀ j : In (Its w [(w.heap.size + 1, csC g1 e1 l1 v1 A1 c1 p1 B1 d1 q1), (b5, csC g1 e1 l1 v1 A5 m5 p5 B5 k5 q5)] [(A5, m5, o1.take 20), (B5, k5, n1.take 20)]), j.W.cell? ⟨w.heap.size + 1, 0, none⟩ = some (.int .u64 g1) := fun j => (j.h.at_ 0 rfl).cell 0
          have fa1 : ∀ j : In (Its w [(w.heap.size + 1, csC g1 e1 l1 v1 A1 c1 p1 B1 d1 q1), (b5, csC g1 e1 l1 v1 A5 m5 p5 B5 k5 q5)] [(A5, m5, o1.take 20), (B5, k5, n1.take 20)]), j.W.cell? ⟨w.heap.size + 1, 1, none⟩ = some (.int .u32 e1) := fun j => (j.h.at_ 0 rfl).cell 1
          have fa2 : ∀ j : In (Its w [(w.heap.size + 1, csC g1 e1 l1 v1 A1 c1 p1 B1 d1 q1), (b5, csC g1 e1 l1 v1 A5 m5 p5 B5 k5 q5)] [(A5, m5, o1.take 20), (B5, k5, n1.take 20)]), j.W.cell? ⟨w.heap.size + 1, 2, none⟩ = some (.int .u64 l1) := fun j => (j.h.at_ 0 rfl).cell 2
          have fa3 : ∀ j : In (Its w [(w.heap.size + 1, csC g1 e1 l1 v1 A1 c1 p1 B1 d1 q1), (b5, csC g1 e1 l1 v1 A5 m5 p5 B5 k5 q5)] [(A5, m5, o1.take 20), (B5, k5, n1.take 20)]), j.W.cell? ⟨w.heap.size + 1, 3, none⟩ = some (.int .u64 v1) := fun j => (j.h.at_ 0 rfl).cell 3
          have fa4 : ∀ j : In (Its w [(w.heap.size + 1, csC g1 e1 l1 v1 A1 c1 p1 B1 d1 q1), (b5, csC g1 e1 l1 v1 A5 m5 p5 B5 k5 q5)] [(A5, m5, o1.take 20), (B5, k5, n1.take 20)]), j.W.cell? ⟨w.heap.size + 1, 4, none⟩ = some (.slice A1 c1 p1) := fun j => (j.h.at_ 0 rfl).cell 4
          have fa5 : ∀ j : In (Its w [(w.heap.size + 1, csC g1 e1 l1 v1 A1 c1 p1 B1 d1 q1), (b5, csC g1 e1 l1 v1 A5 m5 p5 B5 k5 q5)] [(A5, m5, o1.take 20), (B5, k5, n1.take 20)]), j.W.cell? ⟨w.heap.size + 1, 5, none⟩ = some (.slice B1 d1 q1) := fun j => (j.h.at_ 0 rfl).cell 5
          have fx0 : ∀ j : In (Its w [(w.heap.size + 1, csC g1 e1 l1 v1 A1 c1 p1 B1 d1 q1), (b5, csC g1 e1 l1 v1 A5 m5 p5 B5 k5 q5)] [(A5, m5, o1.take 20), (B5, k5, n1.take 20)]), j.W.cell? ⟨b5, 0, none⟩ = some (.int .u64 g1) := fun j => (j.h.at_ 1 rfl).cell 0
          have fx1 : ∀ j : In (Its w [(w.heap.size + 1, csC g1 e1 l1 v1 A1 c1 p1 B1 d1 q1), (b5, csC g1 e1 l1 v1 A5 m5 p5 B5 k5 q5)] [(A5, m5, o1.take 20), (B5, k5, n1.take 20)]), j.W.cell? ⟨b5, 1, none⟩ = some (.int .u32 e1) := fun j => (j.h.at_ 1 rfl).cell 1
          have fx2 : ∀ j : In (Its w [(w.heap.size + 1, csC g1 e1 l1 v1 A1 c1 p1 B1 d1 q1), (b5, csC g1 e1 l1 v1 A5 m5 p5 B5 k5 q5)] [(A5, m5, o1.take 20), (B5, k5, n1.take 20)]), j.W.cell? ⟨b5, 2, none⟩ = some (.int .u64 l1) := fun j => (j.h.at_ 1 rfl).cell 2
          have fx3 : ∀ j : In (Its w [(w.heap.size + 1, csC g1 e1 l1 v1 A1 c1 p1 B1 d1 q1), (b5, csC g1 e1 l1 v1 A5 m5 p5 B5 k5 q5)] [(A5, m5, o1.take 20), (B5, k5, n1.take 20)]), j.W.cell? ⟨b5, 3, none⟩ = some (.int .u64 v1) := fun j => (j.h.at_ 1 rfl).cell 3
          have fx4 : ∀ j : In (Its w [(w.heap.size + 1, csC g1 e1 l1 v1 A1 c1 p1 B1 d1 q1), (b5, csC g1 e1 l1 v1 A5 m5 p5 B5 k5 q5)] [(A5, m5, o1.take 20), (B5, k5, n1.take 20)]), j.W.cell? ⟨b5, 4, none⟩ = some (.slice A5 m5 p5) := fun j => (j.h.at_ 1 rfl).cell 4
          have fx5 : ∀ j : In (Its w [(w.heap.size + 1, csC g1 e1 l1 v1 A1 c1 p1 B1 d1 q1), (b5, csC g1 e1 l1 v1 A5 m5 p5 B5 k5 q5)] [(A5, m5, o1.take 20), (B5, k5, n1.take 20)]), j.W.cell? ⟨b5, 5, none⟩ = some (.slice B5 k5 q5) := fun j => (j.h.at_ 1 rfl).cell 5
          have SQ := Lib.hid (fun W (hi : Its w [(w.heap.size + 1, csC g1 e1 l1 v1 A1 c1 p1 B1 d1 q1), (b5, csC g1 e1 l1 v1 A5 m5 p5 B5 k5 q5)] [(A5, m5, o1.take 20), (B5, k5, n1.take 20)] W) => same_is g1 e1 l1 v1 A5 m5 p5 B5 k5 q5 g1 e1 l1 v1 A1 c1 p1 B1 d1 q1 (o1.take 20) (n1.take 20) (o1.take 20) (n1.take 20) true W (hi.sl 0 rfl) (hi.sl 1 rfl) (SA1.out.later hi.b) (SB1.out.later hi.b) m5l k5l (decide_eq_true rfl))
          have II := Lib.hid I
          clear I B K0 K1 K2b K5 sa5 sb5 DD be
          go_wp2_with fail
          refine region_class (Its w [(w.heap.size + 1, csC g1 e1 l1 v1 A1 c1 p1 B1 d1 q1), (b5, csC g1 e1 l1 v1 A5 m5 p5 B5 k5 q5)] [(A5, m5, o1.take 20), (B5, k5, n1.take 20)]) (by kernel_rfl) (by kernel_rfl) II.out.drawn ?_
          repeat (go_big_quiet_step (first
            | (go_at_call 12; with_reducible exact class_call _ (fun hi => its_ge hi (ref_any g1 e1 l1 v1 A5 m5 p5 B5 k5 q5 _)))
            | (go_at_call 12; with_reducible exact class_call _ (fun hi => its_ge hi (ref_any g1 e1 l1 v1 A1 c1 p1 B1 d1 q1 _)))
            | (go_at_call 19; with_reducible exact class_call _ (fun hi => its_ge hi (SQ.out _ hi)))
            | (go_at_call 20; with_reducible exact class_call _ (fun hi => its_ge hi (fixed_any _)))))
          refine wpQuiet_nil ?_
          rintro _ ⟨j, rfl⟩
          go_wp2_with fail
          go_ret
          exact ⟨rfl, j.h.b⟩

theorem walk (g0 e0 l0 v0 : Int) (A0 : Option Addr) (m0 p0 : Nat) (B0 : Option Addr) (k0 q0 : Nat) (o0 n0 : List Int) (g1 e1 l1 v1 : Int) (A1 : Option Addr) (m1 p1 : Nat) (B1 : Option Addr) (k1 q1 : Nat) (o1 n1 : List Int) (g2 e2 l2 v2 : Int) (A2 : Option Addr) (m2 p2 : Nat) (B2 : Option Addr) (k2 q2 : Nat) (o2 n2 : List Int) (t2 : Int) (w : World) (hg0 : 0 ≤ g0 ∧ g0 < 18446744073709551616) (he0 : 0 ≤ e0 ∧ e0 < 4294967296) (hl0 : 0 ≤ l0 ∧ l0 < 18446744073709551616) (hv0 : 0 ≤ v0 ∧ v0 < 18446744073709551616) (sa0 : Sl w A0 m0 o0) (sb0 : Sl w B0 k0 n0) (hm0 : m0 ≤ maxLen ∧ k0 ≤ maxLen) (hp0 : m0 ≤ p0 ∧ k0 ≤ q0) (hg1 : 0 ≤ g1 ∧ g1 < 18446744073709551616) (he1 : 0 ≤ e1 ∧ e1 < 4294967296) (hl1 : 0 ≤ l1 ∧ l1 < 18446744073709551616) (hv1 : 0 ≤ v1 ∧ v1 < 18446744073709551616) (sa1 : Sl w A1 m1 o1) (sb1 : Sl w B1 k1 n1) (hm1 : m1 ≤ maxLen ∧ k1 ≤ maxLen) (hp1 : m1 ≤ p1 ∧ k1 ≤ q1) (hg2 : 0 ≤ g2 ∧ g2 < 18446744073709551616) (he2 : 0 ≤ e2 ∧ e2 < 4294967296) (hl2 : 0 ≤ l2 ∧ l2 < 18446744073709551616) (hv2 : 0 ≤ v2 ∧ v2 < 18446744073709551616) (sa2 : Sl w A2 m2 o2) (sb2 : Sl w B2 k2 n2) (hm2 : m2 ≤ maxLen ∧ k2 ≤ maxLen) (hp2 : m2 ≤ p2 ∧ k2 ≤ q2) (ht2 : 0 ≤ t2 ∧ t2 < 256) :
    Calls Try.prog 5 #[.agg #[.int .u64 g0, .int .u32 e0, .int .u64 l0, .int .u64 v0, .slice A0 m0 p0, .slice B0 k0 q0], .agg #[.int .u64 g1, .int .u32 e1, .int .u64 l1, .int .u64 v1, .slice A1 m1 p1, .slice B1 k1 q1], .agg #[.int .u64 g2, .int .u32 e2, .int .u64 l2, .int .u64 v2, .slice A2 m2 p2, .slice B2 k2 q2, .int .u8 t2]] w fun e' w' => e' = .returned (.bool true) ∧ Below w.heap.size w w' := by
  have f0 : Fits (⟨g0, e0, l0, v0, o0.take 20, n0.take 20⟩ : Chk) := fitsA hg0 he0 hl0 hv0
  have f1 : Fits (⟨g1, e1, l1, v1, o1.take 20, n1.take 20⟩ : Chk) := fitsA hg1 he1 hl1 hv1
  have f2 : Fits (⟨g2, e2, l2, v2, o2.take 20, n2.take 20⟩ : Chk) := fitsA hg2 he2 hl2 hv2
  obtain ⟨S0, y0, E0, z0, h0⟩ := enc_ex (p := p0) (q := q0) sa0.cut sb0.cut (cut20_le _) f0
  obtain ⟨S1, y1, E1, z1, h1⟩ := enc_ex (p := p1) (q := q1) sa1.cut sb1.cut (cut20_le _) f1
  obtain ⟨S2, y2, E2, z2, h2⟩ := enc_ex (p := p2) (q := q2) sa2.cut sb2.cut (cut20_le _) f2
  have hy : y0 = 0 ∨ y0 = 5 := by rcases h0 with h | h; exact .inr h.2; exact .inl h.2.1
  refine main g0 e0 l0 v0 A0 m0 p0 B0 k0 q0 o0 n0 g1 e1 l1 v1 A1 m1 p1 B1 k1 q1 o1 n1 g2 e2 l2 v2 A2 m2 p2 B2 k2 q2 o2 n2 t2 w hg0 he0 hl0 hv0 sa0 sb0 hm0 hp0 hg1 he1 hl1 hv1 sa1 sb1 hm1 hp1 hg2 he2 hl2 hv2 sa2 sb2 hm2 hp2 ht2 S0 S1 S2 y0 y1 y2 E0 E1 E2 hy (Lib.hid ?_) (Lib.hid ?_) z1 (Lib.hid ?_) (Lib.hid ?_)
  · intro e
    rcases h0 with h | h
    · omega
    · exact h.2.2.2
  · intro e
    rcases h2 with h | h
    · omega
    · exact h.2.2.2
  · rcases h1 with h1 | h1
    · rcases h2 with h2 | h2
      · exact .inl ⟨h1.2, h2.2⟩
      · exact .inr (.inl ⟨h1.2, h2.2.1⟩)
    · rcases h2 with h2 | h2
      · exact .inr (.inr (.inl ⟨h1.2.1, h2.2⟩))
      · by_cases q1 : g2 ≤ g1
        · exact .inr (.inr (.inr (.inl ⟨h1.2.1, h2.2.1, q1⟩)))
        · rcases hy with hy | hy
          · by_cases q2 : g1 ≤ g0
            · exact .inr (.inr (.inr (.inr (.inl ⟨h1.2.1, h2.2.1, q1, hy, q2⟩))))
            · exact .inr (.inr (.inr (.inr (.inr ⟨h1.2.1, h2.2.1, q1, .inr ⟨hy, q2⟩⟩))))
          · exact .inr (.inr (.inr (.inr (.inr ⟨h1.2.1, h2.2.1, q1, .inl hy⟩))))
  · intro Z hZ k hk M hM
    have key : y1 = 0 ∧ y2 = 0 ∧ ¬ g2 ≤ g1 ∧ (y0 = 5 ∨ (y0 = 0 ∧ ¬ g1 ≤ g0)) → secL (⟨g2, e2, l2, v2, o2.take 20, n2.take 20⟩ : Chk) = S2.data.toList ∧ ((M.data.toList = secL (⟨g2, e2, l2, v2, o2.take 20, n2.take 20⟩ : Chk) → bestC M.data.toList S1.data.toList = (⟨g2, e2, l2, v2, o2.take 20, n2.take 20⟩ : Chk) ∧ bestI M.data.toList S1.data.toList = 0 ∧ bestE M.data.toList S1.data.toList = 0) ∧ (M.data.toList ≠ secL (⟨g2, e2, l2, v2, o2.take 20, n2.take 20⟩ : Chk) → bestC M.data.toList S1.data.toList = (⟨g1, e1, l1, v1, o1.take 20, n1.take 20⟩ : Chk) ∧ bestI M.data.toList S1.data.toList = 1 ∧ bestE M.data.toList S1.data.toList = 0)) := fun ⟨c1, c2, c3, c4⟩ => by
      rcases h1 with h1 | h1
      · omega
      rcases h2 with h2 | h2
      · omega
      have gp := ((okC_iff _).1 h1.1).1.1
      dsimp only at gp
      rw [← h1.2.2.1]
      refine ⟨h2.2.2.1, ?_⟩
      have hz : Z.data.toList.length = 128 ∧ ((getN (Z.data.toList.drop 120) : Nat) : Int) < g1 := by
        rcases hZ with ⟨rfl, e⟩ | ⟨rfl, e⟩
        · rcases h0 with h0 | h0
          · omega
          · rw [← h0.2.2.1, secL_len h0.1, sec_end f0 h0.1]
            exact ⟨rfl, by show g0 < g1; omega⟩
        · rw [zeros_end]
          exact ⟨by rw [← Go.Lib.size_eq]; exact zeroTo_size 128, by omega⟩
      exact torn_best f1 h1.1 f2 h2.1 (show g1 < g2 by omega) hz.1 hz.2 k hk (by rw [hM, h2.2.2.1])
    refine ⟨?_, fun h c => ?_, fun h c => ?_⟩
    · have : M.size ≤ 256 := by
        have hl : Z.data.toList.length ≤ 128 := by
          rcases hZ with ⟨rfl, e⟩ | ⟨rfl, e⟩
          · rcases h0 with h0 | h0
            · omega
            · rw [← Go.Lib.size_eq, h0.2.2.2]; omega
          · rw [← Go.Lib.size_eq, zeroTo_size]; omega
        rw [Go.Lib.size_eq, hM, List.length_append, List.length_take, List.length_drop]
        omega
      unfold maxLen; omega
    · obtain ⟨e, k1, _⟩ := key c
      exact k1 (by rw [h, e])
    · obtain ⟨e, _, k2⟩ := key c
      exact k2 (fun hh => h (bytes_ext (by rw [hh, e])))

set_option maxRecDepth 100000 in
theorem lifted (os : Os) (started : os.Started) (H : Type) (enc : TypeId × Value → H) :
    ReturnsInHanded {} Try.checked os 5 .any (Rows.ckptTornSpec.pre6 enc Try.prog Try.f5 Rows.ckptTornRow.domain false) (Rows.ckptTornSpec.post enc Try.prog Try.f5 false true false false) := by
  refine returnsInHanded_of_change (C := Try.checked) own started (by kernel_rfl) Try.func5
    (ChangeSpec.witness6 (enc := enc) (C := Try.checked) false ⟨#[], #[.agg #[.int .u64 0, .int .u32 0, .int .u64 0, .int .u64 0, .slice none 0 0, .slice none 0 0], .agg #[.int .u64 0, .int .u32 0, .int .u64 0, .int .u64 0, .slice none 0 0, .slice none 0 0], .agg #[.int .u64 0, .int .u32 0, .int .u64 0, .int .u64 0, .slice none 0 0, .slice none 0 0, .int .u8 0]], []⟩ 8 (by kernel_rfl) (by kernel_rfl) (by kernel_rfl) (by kernel_rfl)) ?_
  intro W base args ds gs before hval0 hW hcnd _
  have hval : ∀ (j : Nat) t v, Try.f5.params[j]? = some t → args[j]? = some v → Value.okWide Try.prog W .any base t v := hval0
  have hW' := hW
  obtain ⟨p, q, hA0, hV, rfl, hfz, hnd⟩ := hW
  have hA : DataW.TrodAll enc Try.prog W 0 (fun _ => true) true Try.f5.params.toList args.toList ds p := hA0
  rw [Try.params5] at hA hval
  obtain ⟨v0, vs0, d0, ds0, p0, q0, hargs, rfl, rfl, h0, r0⟩ := trodAll_cons hA
  obtain ⟨v1, vs1, d1, ds1, p1, q1, rfl, rfl, rfl, h1, r1⟩ := trodAll_cons r0
  obtain ⟨v2, vs2, d2, ds2, p2, q2, rfl, rfl, rfl, h2, r2⟩ := trodAll_cons r1
  obtain ⟨rfl, rfl, rfl⟩ := trodAll_nil r2
  obtain rfl : args = #[v0, v1, v2] := by cases args; simp_all
  obtain ⟨rfl, rfl⟩ := trodVars_none hV
  obtain ⟨g0, e0, l0, v0, A0, m0, p0, B0, k0, q0, o0, n0, rfl, hg0, he0, hl0, hv0, sa0, sb0, hm0, hp0⟩ := open_chk (hval 0 26 v0 rfl rfl) h0
  obtain ⟨g1, e1, l1, v1, A1, m1, p1, B1, k1, q1, o1, n1, rfl, hg1, he1, hl1, hv1, sa1, sb1, hm1, hp1⟩ := open_chk (hval 1 26 v1 rfl rfl) h1
  obtain ⟨g2, e2, l2, v2, A2, m2, p2, B2, k2, q2, o2, n2, t2, rfl, hg2, he2, hl2, hv2, sa2, sb2, hm2, hp2, ht2⟩ := open_third (hval 2 49 v2 rfl rfl) h2
  clear hA0 hval0
  try simp only [List.append_nil] at hW'
  try simp only [List.nil_append] at hW'
  have hlt := fun x hx => hW'.lt x hx
  refine (walk g0 e0 l0 v0 A0 m0 p0 B0 k0 q0 o0 n0 g1 e1 l1 v1 A1 m1 p1 B1 k1 q1 o1 n1 g2 e2 l2 v2 A2 m2 p2 B2 k2 q2 o2 n2 t2 W hg0 he0 hl0 hv0 sa0 sb0 hm0 hp0 hg1 he1 hl1 hv1 sa1 sb1 hm1 hp1 hg2 he2 hl2 hv2 sa2 sb2 hm2 hp2 ht2).mono fun e W' ⟨he, hg⟩ => ?_
  subst he
  refine ⟨_, rfl, post_mem hW' (fun _ _ _ => (trodAll_cons_mk (shut_bool Try.underlying4 _) trodAll_mk0)) (fun sp hsp => ?_) (fun _ => rfl) hg (ok_one (by kernel_rfl) rfl (okWide_bool_mk Try.underlying4 _))⟩
  have hall := (trodAll_cons_mk (arg_same (sp := sp) laid (by kernel_rfl) (of_decide_eq_true (by kernel_rfl)) h0 hg (by intro x hx; simp_all) hlt hsp) (trodAll_cons_mk (arg_same (sp := sp) laid (by kernel_rfl) (of_decide_eq_true (by kernel_rfl)) h1 hg (by intro x hx; simp_all) hlt hsp) (trodAll_cons_mk (arg_same (sp := sp) laid (by kernel_rfl) (of_decide_eq_true (by kernel_rfl)) h2 hg (by intro x hx; simp_all) hlt hsp) trodAll_mk0)))
  try simp only [List.append_nil] at hall
  try simp only [List.nil_append] at hall
  exact hall

theorem over : Rows.ckptTornRow.holds Try.pinned (OpenSpec.ofChange Rows.ckptTornSpec) :=
  OpenClaim.holds_of_wide 5 Try.f5 rfl rfl rfl rfl rfl rfl rfl ⟨rfl, rfl, rfl, rfl, rfl⟩ rfl rfl rfl rfl rfl (by kernel_rfl) Try.func5 (by kernel_rfl)
    (of_decide_eq_true (by kernel_rfl)) (by unfold Func.isWrapper; first | (rw [if_pos (by decide +kernel)]; kernel_rfl) | (rw [if_neg (by decide +kernel)]; exact ⟨rfl, rfl⟩))
    (fun os started H enc _ => lifted os started H enc)

theorem proved : Rows.CkptTornSaid := over
#print axioms proved
end Go.Proofs.Ytdnkhjikfdalbaa.ckptTorn
