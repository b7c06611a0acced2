/- For all inputs the statement VictimPicks about victim returns true, and changes nothing. Conditions: none. -/
import Derived.Test.YtgepkomomjmmhaaViK
import Derived.Test.YtgepkomomjmmhaaViF
import Derived.Test.YtgepkomomjmmhaaClass
import Derived.ProofKit
import Derived.OpenShut
import Derived.ShutString
import Derived.SizedLaws
namespace Go.Proofs.Ytgepkomomjmmhaa.victimPicks
open Go.ChangeShapes Go.WideShapes Go.ChangeAt Go.RowKit Go.Lib Go.MapKept
open Go.ChangeMaps (open_string shut_string)
set_option linter.unusedVariables false
set_option linter.unusedSimpArgs false

theorem own : ownKnob Try.prog.godebug = none := by kernel_rfl
theorem laid : laidOutB Try.prog = true := by kernel_rfl

set_option maxRecDepth 100000
open Vi Sp
theorem arrF44 {cs : Array Value} (h : cs.size = 44) : ∃ y : Nat → Value, (∀ i, cs.getD i undef = y i) ∧ cs = #[y 0, y 1, y 2, y 3, y 4, y 5, y 6, y 7, y 8, y 9, y 10, y 11, y 12, y 13, y 14, y 15, y 16, y 17, y 18, y 19, y 20, y 21, y 22, y 23, y 24, y 25, y 26, y 27, y 28, y 29, y 30, y 31, y 32, y 33, y 34, y 35, y 36, y 37, y 38, y 39, y 40, y 41, y 42, y 43] := by
  refine ⟨fun i => cs.getD i undef, fun _ => rfl, ?_⟩
  have e : cs = ((List.range 44).map fun i => cs.getD i undef).toArray := by
    apply Array.ext
    · simp [h]
    · intro i h1 h2
      simp [h1]
  exact e.trans rfl
set_option maxHeartbeats 64000000 in
theorem walk (P : Prg) (A : Option Addr) (n c : Nat) (L : List Cd) (a b : Cd) (w : World) (hL : CR w A n L) (hn : n ≤ maxLen) (hp : n ≤ c) (ho : ∀ x ∈ L, CIn x) (ha : CIn a) (hb : CIn b) :
    Calls Try.prog 3 #[.slice A n c, .agg (cdA5 a), .agg (cdA5 b)] w fun e w' => e = .returned (.bool true) ∧ Below w.heap.size w w' := by
  obtain ⟨m, M, hM⟩ := cut16 hL hp ho
  obtain rfl : m = M.length := hM.r.len
  have HM := Lib.hid hM
  have hmin := hM.e.symm
  have hmc : (M.length : Int) ≤ (c : Int) := by have := hM.cap; omega
  have hm0 : (0 : Int) ≤ (M.length : Int) := by omega
  obtain ⟨W0, hW⟩ : ∃ W0, (w.alloc (.cells (cdA5 a) 25)).alloc (.cells (cdA5 b) 25) = W0 := ⟨_, rfl⟩
  obtain ⟨ba, hba⟩ : ∃ ba, w.heap.size = ba := ⟨_, rfl⟩
  obtain ⟨bb, hbb⟩ : ∃ bb, ba + 1 = bb := ⟨_, rfl⟩
  have HB0 := Lib.hid (show Below w.heap.size w W0 by rw [← hW]; exact ((Below.refl _ _).alloc (Nat.le_refl _) _).alloc (by simp) _)
  have BA : Hid (Sp.Blk W0 ba 25 (cdA5 a)) := Lib.hid (by rw [← hW, ← hba]; exact (Sp.Blk.new w 25 (cdA5 a)).later (below1 _ _))
  have BB : Hid (Sp.Blk W0 bb 25 (cdA5 b)) := Lib.hid (by rw [← hW, ← hbb, ← hba]; exact Sp.Blk.at_ _ _ _ (by simp))
  have hle : M.length ≤ 20 := by have := hM.le; omega
  have hok : ∀ x ∈ M, COk x := fun x hx => (hM.ok x hx).a
  have HCM := Lib.hid (hM.r.later HB0.out)
  obtain ⟨R, hR⟩ : ∃ R, better a b = R := ⟨_, rfl⟩
  obtain ⟨PK, hPK⟩ : ∃ R, pick M a.n = R := ⟨_, rfl⟩
  have HB : Hid (∀ X, Calls Try.prog 10 #[.agg (cdA5 a), .agg (cdA5 b)] X fun e w' => e = .returned (.bool R) ∧ Below X.heap.size X w') := Lib.hid (fun X => by rw [← hR]; exact P.bt a b X ha hb)
  have HRB : Hid (∀ X, Calls Try.prog 11 #[.agg (cdA5 a), .agg (cdA5 b)] X fun e w' => e = .returned (.bool R) ∧ Below X.heap.size X w') := Lib.hid (fun X => by rw [← hR]; exact rbetter_any a b X ha.a hb.a)
  have HPK : Hid (∀ X, Below W0.heap.size W0 X → Calls Try.prog 13 #[.slice A M.length c, .int .i64 a.n] X fun e w' => e = .returned (.int .i64 PK) ∧ Below X.heap.size X w') := Lib.hid (fun X hX => by rw [← hPK]; exact P.pk A M.length c M a.n X (HCM.out.later hX) hle HM.out.cap HM.out.ok ha.n)
  have HRF : Hid (∀ X, Below W0.heap.size W0 X → Calls Try.prog 15 #[.slice A M.length c] X fun e w' => ∃ A' p', e = .returned (.slice A' M.length p') ∧ CR w' A' M.length M ∧ Below X.heap.size X w') := Lib.hid (fun X hX => refs_any A M.length c M X (HCM.out.later hX) (by omega))
  have HRP : Hid (∀ A' p' X, CR X A' M.length M → Calls Try.prog 14 #[.slice A' M.length p', .int .i64 a.n] X fun e w' => e = .returned (.int .i64 PK) ∧ Below X.heap.size X w') := Lib.hid (fun A' p' X hX => by rw [← hPK]; exact rpick_any A' M.length p' M a.n X hX (by omega) hok)
  have HOL : Hid ((order M).length = M.length) := Lib.hid (order_len M)
  have HOD : Hid (∀ X, Below W0.heap.size W0 X → Calls Try.prog 17 #[.slice A M.length c] X fun e w' => ∃ A' p', e = .returned (.slice A' (order M).length p') ∧ VR w' A' (order M).length (iv (order M)) ∧ Below X.heap.size X w') := Lib.hid (fun X hX => by rw [HOL.out]; exact P.od A M.length c M X (HCM.out.later hX) (by have := hM.le; omega) HM.out.cap HM.out.ok)
  have HRO : Hid (∀ A' p' X, CR X A' M.length M → Calls Try.prog 18 #[.slice A' M.length p'] X fun e w' => ∃ A' p', e = .returned (.slice A' (order M).length p') ∧ VR w' A' (order M).length (iv (order M)) ∧ Below X.heap.size X w') := Lib.hid (fun A' p' X hX => by rw [HOL.out]; exact rorder_any A' M.length p' M X hX (by omega) hok)
  have HIN : Hid (∀ (A1 : Option Addr) (p1 : Nat) (A2 : Option Addr) (p2 : Nat) X, VR X A1 (order M).length (iv (order M)) → VR X A2 (order M).length (iv (order M)) → Calls Try.prog 16 #[.slice A1 (order M).length p1, .slice A2 (order M).length p2] X fun e w' => e = .returned (.bool true) ∧ Below X.heap.size X w') := Lib.hid (fun A1 p1 A2 p2 X h1 h2 => by
    have := rints_any A1 _ p1 A2 _ p2 _ _ X h1 h2 (by rw [HOL.out]; omega)
    rw [decide_eq_true rfl] at this
    exact this)
  have HFX := Lib.hid (fun X => fixed_any P X)
  clear P hL hn hp ho hM hle hok hR hPK ha hb
  go_enter Try.func3, Try.ntmps3
  go_upto_region 2 with fail
  clear hmin hW hba
  refine wp_its [.is (.agg #[.int .i64 (a.s), .int .i64 (a.l), .int .i64 (a.v), .int .i64 (a.n), .int .u64 a.a]),
    .is (.agg #[.int .i64 (b.s), .int .i64 (b.l), .int .i64 (b.v), .int .i64 (b.n), .int .u64 b.a]),
    .is (.bool R),
    .is (.agg #[.int .i64 (a.s), .int .i64 (a.l), .int .i64 (a.v), .int .i64 (a.n), .int .u64 a.a]),
    .is (.agg (cdA5 a)),
    .is (.agg #[.int .i64 (b.s), .int .i64 (b.l), .int .i64 (b.v), .int .i64 (b.n), .int .u64 b.a]),
    .is (.agg (cdA5 b)),
    .is (.bool R),
    .is (.bool true),
    .is (.bool true),
    .is (.slice A M.length c),
    .is (.pointer (some ⟨ba, 3, none⟩)),
    .is (.int .i64 (a.n)),
    .is (.int .i64 (PK)),
    .is (.slice A M.length c),
    .crs M,
    .is (.pointer (some ⟨ba, 3, none⟩)),
    .is (.int .i64 (a.n)),
    .is (.int .i64 (PK)),
    .is (.bool true),
    .is (.bool true),
    .is (.bool true),
    .is (.slice A M.length c),
    .ivs (order M),
    .is (.slice A M.length c),
    .crs M,
    .ivs (order M),
    .is (.bool true),
    .is (.bool true),
    .is (.bool true),
    .is (.bool true),
    .is (.bool true),
    .is (.bool true)] (w0 := W0) (by kernel_rfl) (by kernel_rfl) (Below.refl _ _) ?_ ?_
  · refine ⟨?_, ?_, ?_, ?_, ?_, ?_, ?_, ?_, ?_, ?_, ?_, ?_, ?_, ?_, ?_, ?_, ?_, ?_, ?_, ?_, ?_, ?_, ?_, ?_, ?_, ?_, ?_, ?_, ?_, ?_, ?_, ?_, ?_, trivial⟩
    · intro listed A0 W hA hr K hK
      have e4 : A0.tmps[4]?.getD undef = .pointer (some ⟨ba, 0, none⟩) := slot_is ((hA.kept 4 (Free.not_dst (by kernel_rfl))).trans rfl)
      have f0 : W.cell? ⟨ba, 0, none⟩ = some (.int .i64 (a.s)) := (CC.blk (BA.out.later hA.c)).c0
      have f1 : W.cell? ⟨ba, 1, none⟩ = some (.int .i64 (a.l)) := (CC.blk (BA.out.later hA.c)).c1
      have f2 : W.cell? ⟨ba, 2, none⟩ = some (.int .i64 (a.v)) := (CC.blk (BA.out.later hA.c)).c2
      have f3 : W.cell? ⟨ba, 3, none⟩ = some (.int .i64 (a.n)) := (CC.blk (BA.out.later hA.c)).c3
      have f4 : W.cell? ⟨ba, 4, none⟩ = some (.int .u64 a.a) := (CC.blk (BA.out.later hA.c)).c4
      rw [if_pos (FreeG.wanted_plain rfl)]
      simp [go_sem, e4, f0, f1, f2, f3, f4]
      exact hK _ _ (Below.refl _ _) rfl
    · intro listed A0 W hA hr K hK
      have e5 : A0.tmps[5]?.getD undef = .pointer (some ⟨bb, 0, none⟩) := slot_is ((hA.kept 5 (Free.not_dst (by kernel_rfl))).trans rfl)
      have f0 : W.cell? ⟨bb, 0, none⟩ = some (.int .i64 (b.s)) := (CC.blk (BB.out.later hA.c)).c0
      have f1 : W.cell? ⟨bb, 1, none⟩ = some (.int .i64 (b.l)) := (CC.blk (BB.out.later hA.c)).c1
      have f2 : W.cell? ⟨bb, 2, none⟩ = some (.int .i64 (b.v)) := (CC.blk (BB.out.later hA.c)).c2
      have f3 : W.cell? ⟨bb, 3, none⟩ = some (.int .i64 (b.n)) := (CC.blk (BB.out.later hA.c)).c3
      have f4 : W.cell? ⟨bb, 4, none⟩ = some (.int .u64 b.a) := (CC.blk (BB.out.later hA.c)).c4
      rw [if_pos (FreeG.wanted_plain rfl)]
      simp [go_sem, e5, f0, f1, f2, f3, f4]
      exact hK _ _ (Below.refl _ _) rfl
    · intro listed A0 W hA hr K hK
      have e12 : A0.tmps[12]?.getD undef = .agg #[.int .i64 (a.s), .int .i64 (a.l), .int .i64 (a.v), .int .i64 (a.n), .int .u64 a.a] := slot_is (hA.val 0 _ rfl (hr ⟨0, .data⟩ (by simp) rfl))
      have e13 : A0.tmps[13]?.getD undef = .agg #[.int .i64 (b.s), .int .i64 (b.l), .int .i64 (b.v), .int .i64 (b.n), .int .u64 b.a] := slot_is (hA.val 1 _ rfl (hr ⟨1, .data⟩ (by simp) rfl))
      rw [if_pos (FreeG.wanted_plain rfl)]
      simp [go_sem, e12, e13]
      refine (HB.out W).mono ?_
      rintro e' w' ⟨rfl, hb⟩
      exact hK _ _ hb rfl
    · intro listed A0 W hA hr K hK
      have e4 : A0.tmps[4]?.getD undef = .pointer (some ⟨ba, 0, none⟩) := slot_is ((hA.kept 4 (Free.not_dst (by kernel_rfl))).trans rfl)
      have f0 : W.cell? ⟨ba, 0, none⟩ = some (.int .i64 (a.s)) := (CC.blk (BA.out.later hA.c)).c0
      have f1 : W.cell? ⟨ba, 1, none⟩ = some (.int .i64 (a.l)) := (CC.blk (BA.out.later hA.c)).c1
      have f2 : W.cell? ⟨ba, 2, none⟩ = some (.int .i64 (a.v)) := (CC.blk (BA.out.later hA.c)).c2
      have f3 : W.cell? ⟨ba, 3, none⟩ = some (.int .i64 (a.n)) := (CC.blk (BA.out.later hA.c)).c3
      have f4 : W.cell? ⟨ba, 4, none⟩ = some (.int .u64 a.a) := (CC.blk (BA.out.later hA.c)).c4
      rw [if_pos (FreeG.wanted_plain rfl)]
      simp [go_sem, e4, f0, f1, f2, f3, f4]
      exact hK _ _ (Below.refl _ _) rfl
    · intro listed A0 W hA hr K hK
      have e15 : A0.tmps[15]?.getD undef = .agg #[.int .i64 (a.s), .int .i64 (a.l), .int .i64 (a.v), .int .i64 (a.n), .int .u64 a.a] := slot_is (hA.val 3 _ rfl (hr ⟨3, .data⟩ (by simp) rfl))
      rw [if_pos (FreeG.wanted_plain rfl)]
      simp [go_sem, e15]
      refine (ref_any a W).mono ?_
      rintro e' w' ⟨rfl, hb⟩
      exact hK _ _ hb rfl
    · intro listed A0 W hA hr K hK
      have e5 : A0.tmps[5]?.getD undef = .pointer (some ⟨bb, 0, none⟩) := slot_is ((hA.kept 5 (Free.not_dst (by kernel_rfl))).trans rfl)
      have f0 : W.cell? ⟨bb, 0, none⟩ = some (.int .i64 (b.s)) := (CC.blk (BB.out.later hA.c)).c0
      have f1 : W.cell? ⟨bb, 1, none⟩ = some (.int .i64 (b.l)) := (CC.blk (BB.out.later hA.c)).c1
      have f2 : W.cell? ⟨bb, 2, none⟩ = some (.int .i64 (b.v)) := (CC.blk (BB.out.later hA.c)).c2
      have f3 : W.cell? ⟨bb, 3, none⟩ = some (.int .i64 (b.n)) := (CC.blk (BB.out.later hA.c)).c3
      have f4 : W.cell? ⟨bb, 4, none⟩ = some (.int .u64 b.a) := (CC.blk (BB.out.later hA.c)).c4
      rw [if_pos (FreeG.wanted_plain rfl)]
      simp [go_sem, e5, f0, f1, f2, f3, f4]
      exact hK _ _ (Below.refl _ _) rfl
    · intro listed A0 W hA hr K hK
      have e17 : A0.tmps[17]?.getD undef = .agg #[.int .i64 (b.s), .int .i64 (b.l), .int .i64 (b.v), .int .i64 (b.n), .int .u64 b.a] := slot_is (hA.val 5 _ rfl (hr ⟨5, .data⟩ (by simp) rfl))
      rw [if_pos (FreeG.wanted_plain rfl)]
      simp [go_sem, e17]
      refine (ref_any b W).mono ?_
      rintro e' w' ⟨rfl, hb⟩
      exact hK _ _ hb rfl
    · intro listed A0 W hA hr K hK
      have e16 : A0.tmps[16]?.getD undef = .agg (cdA5 a) := slot_is (hA.val 4 _ rfl (hr ⟨4, .data⟩ (by simp) rfl))
      have e18 : A0.tmps[18]?.getD undef = .agg (cdA5 b) := slot_is (hA.val 6 _ rfl (hr ⟨6, .data⟩ (by simp) rfl))
      rw [if_pos (FreeG.wanted_plain rfl)]
      simp [go_sem, e16, e18]
      refine (HRB.out W).mono ?_
      rintro e' w' ⟨rfl, hb⟩
      exact hK _ _ hb rfl
    · intro listed A0 W hA hr K hK
      have e14 : A0.tmps[14]?.getD undef = .bool R := slot_is (hA.val 2 _ rfl (hr ⟨2, .data⟩ (by simp) rfl))
      have e19 : A0.tmps[19]?.getD undef = .bool R := slot_is (hA.val 7 _ rfl (hr ⟨7, .data⟩ (by simp) rfl))
      rw [if_pos (FreeG.wanted_plain rfl)]
      simp [go_sem, e14, e19]
      exact hK _ _ (Below.refl _ _) rfl
    · intro listed A0 W hA hr K hK
      have e20 : A0.tmps[20]?.getD undef = .bool true := slot_is (hA.val 8 _ rfl (hr ⟨8, .data⟩ (by simp) rfl))
      rw [if_pos (FreeG.wanted_plain rfl)]
      simp [go_sem, e20]
      exact hK _ _ (Below.refl _ _) rfl
    · intro listed A0 W hA hr K hK
      have eg : A0.tmps[21]?.getD undef = .bool true := slot_is (hA.val 9 _ rfl (hr ⟨9, .guard⟩ (by simp) rfl))
      have e0 : A0.tmps[0]?.getD undef = .slice A M.length c := slot_is ((hA.kept 0 (Free.not_dst (by kernel_rfl))).trans rfl)
      rw [if_pos (FreeG.wanted_yes rfl rfl rfl eg)]
      simp [go_sem, e0]
      exact hK _ _ (Below.refl _ _) rfl
    · intro listed A0 W hA hr K hK
      have eg : A0.tmps[21]?.getD undef = .bool true := slot_is (hA.val 9 _ rfl (hr ⟨9, .guard⟩ (by simp) rfl))
      have e4 : A0.tmps[4]?.getD undef = .pointer (some ⟨ba, 0, none⟩) := slot_is ((hA.kept 4 (Free.not_dst (by kernel_rfl))).trans rfl)
      rw [if_pos (FreeG.wanted_yes rfl rfl rfl eg)]
      simp [go_sem, e4]
      exact hK _ _ (Below.refl _ _) rfl
    · intro listed A0 W hA hr K hK
      have eg : A0.tmps[21]?.getD undef = .bool true := slot_is (hA.val 9 _ rfl (hr ⟨9, .guard⟩ (by simp) rfl))
      have e23 : A0.tmps[23]?.getD undef = .pointer (some ⟨ba, 3, none⟩) := slot_is (hA.val 11 _ rfl (hr ⟨11, .data⟩ (by simp) rfl))
      have f0 : W.cell? ⟨ba, 3, none⟩ = some (.int .i64 (a.n)) := (CC.blk (BA.out.later hA.c)).c3
      rw [if_pos (FreeG.wanted_yes rfl rfl rfl eg)]
      simp [go_sem, e23, f0]
      exact hK _ _ (Below.refl _ _) rfl
    · intro listed A0 W hA hr K hK
      have eg : A0.tmps[21]?.getD undef = .bool true := slot_is (hA.val 9 _ rfl (hr ⟨9, .guard⟩ (by simp) rfl))
      have e22 : A0.tmps[22]?.getD undef = .slice A M.length c := slot_is (hA.val 10 _ rfl (hr ⟨10, .data⟩ (by simp) rfl))
      have e24 : A0.tmps[24]?.getD undef = .int .i64 (a.n) := slot_is (hA.val 12 _ rfl (hr ⟨12, .data⟩ (by simp) rfl))
      rw [if_pos (FreeG.wanted_yes rfl rfl rfl eg)]
      simp [go_sem, e22, e24]
      refine (HPK.out W hA.c).mono ?_
      rintro e' w' ⟨rfl, hb⟩
      exact hK _ _ hb rfl
    · intro listed A0 W hA hr K hK
      have eg : A0.tmps[21]?.getD undef = .bool true := slot_is (hA.val 9 _ rfl (hr ⟨9, .guard⟩ (by simp) rfl))
      have e0 : A0.tmps[0]?.getD undef = .slice A M.length c := slot_is ((hA.kept 0 (Free.not_dst (by kernel_rfl))).trans rfl)
      rw [if_pos (FreeG.wanted_yes rfl rfl rfl eg)]
      simp [go_sem, e0]
      exact hK _ _ (Below.refl _ _) rfl
    · intro listed A0 W hA hr K hK
      have eg : A0.tmps[21]?.getD undef = .bool true := slot_is (hA.val 9 _ rfl (hr ⟨9, .guard⟩ (by simp) rfl))
      have e26 : A0.tmps[26]?.getD undef = .slice A M.length c := slot_is (hA.val 14 _ rfl (hr ⟨14, .data⟩ (by simp) rfl))
      rw [if_pos (FreeG.wanted_yes rfl rfl rfl eg)]
      simp [go_sem, e26]
      refine (HRF.out W hA.c).mono ?_
      rintro e' w' ⟨A1, p1, rfl, h1, hb⟩
      exact hK _ _ hb ⟨A1, p1, rfl, h1⟩
    · intro listed A0 W hA hr K hK
      have eg : A0.tmps[21]?.getD undef = .bool true := slot_is (hA.val 9 _ rfl (hr ⟨9, .guard⟩ (by simp) rfl))
      have e4 : A0.tmps[4]?.getD undef = .pointer (some ⟨ba, 0, none⟩) := slot_is ((hA.kept 4 (Free.not_dst (by kernel_rfl))).trans rfl)
      rw [if_pos (FreeG.wanted_yes rfl rfl rfl eg)]
      simp [go_sem, e4]
      exact hK _ _ (Below.refl _ _) rfl
    · intro listed A0 W hA hr K hK
      have eg : A0.tmps[21]?.getD undef = .bool true := slot_is (hA.val 9 _ rfl (hr ⟨9, .guard⟩ (by simp) rfl))
      have e28 : A0.tmps[28]?.getD undef = .pointer (some ⟨ba, 3, none⟩) := slot_is (hA.val 16 _ rfl (hr ⟨16, .data⟩ (by simp) rfl))
      have f0 : W.cell? ⟨ba, 3, none⟩ = some (.int .i64 (a.n)) := (CC.blk (BA.out.later hA.c)).c3
      rw [if_pos (FreeG.wanted_yes rfl rfl rfl eg)]
      simp [go_sem, e28, f0]
      exact hK _ _ (Below.refl _ _) rfl
    · intro listed A0 W hA hr K hK
      have eg : A0.tmps[21]?.getD undef = .bool true := slot_is (hA.val 9 _ rfl (hr ⟨9, .guard⟩ (by simp) rfl))
      have e27 : ∃ A p, A0.tmps[27]?.getD undef = .slice A (M).length p ∧ CR W A (M).length M := slot_crs (hA.val 15 _ rfl (hr ⟨15, .data⟩ (by simp) rfl))
      have e29 : A0.tmps[29]?.getD undef = .int .i64 (a.n) := slot_is (hA.val 17 _ rfl (hr ⟨17, .data⟩ (by simp) rfl))
      rw [if_pos (FreeG.wanted_yes rfl rfl rfl eg)]
      obtain ⟨A27, p27, h27, s27⟩ := e27
      simp [go_sem, h27, e29]
      refine (HRP.out _ _ W s27).mono ?_
      rintro e' w' ⟨rfl, hb⟩
      exact hK _ _ hb rfl
    · intro listed A0 W hA hr K hK
      have eg : A0.tmps[21]?.getD undef = .bool true := slot_is (hA.val 9 _ rfl (hr ⟨9, .guard⟩ (by simp) rfl))
      have e25 : A0.tmps[25]?.getD undef = .int .i64 (PK) := slot_is (hA.val 13 _ rfl (hr ⟨13, .data⟩ (by simp) rfl))
      have e30 : A0.tmps[30]?.getD undef = .int .i64 (PK) := slot_is (hA.val 18 _ rfl (hr ⟨18, .data⟩ (by simp) rfl))
      rw [if_pos (FreeG.wanted_yes rfl rfl rfl eg)]
      simp [go_sem, e25, e30]
      exact hK _ _ (Below.refl _ _) rfl
    · intro listed A0 W hA hr K hK
      have e21 : A0.tmps[21]?.getD undef = .bool true := slot_is (hA.val 9 _ rfl (hr ⟨9, .data⟩ (by simp) rfl))
      have e31 : A0.tmps[31]?.getD undef = .bool true := slot_is (hA.val 19 _ rfl (hr ⟨19, .data⟩ (by simp) rfl))
      rw [if_pos (FreeG.wanted_plain rfl)]
      simp [go_sem, e21, e31]
      exact hK _ _ (Below.refl _ _) rfl
    · intro listed A0 W hA hr K hK
      have e32 : A0.tmps[32]?.getD undef = .bool true := slot_is (hA.val 20 _ rfl (hr ⟨20, .data⟩ (by simp) rfl))
      rw [if_pos (FreeG.wanted_plain rfl)]
      simp [go_sem, e32]
      exact hK _ _ (Below.refl _ _) rfl
    · intro listed A0 W hA hr K hK
      have eg : A0.tmps[33]?.getD undef = .bool true := slot_is (hA.val 21 _ rfl (hr ⟨21, .guard⟩ (by simp) rfl))
      have e0 : A0.tmps[0]?.getD undef = .slice A M.length c := slot_is ((hA.kept 0 (Free.not_dst (by kernel_rfl))).trans rfl)
      rw [if_pos (FreeG.wanted_yes rfl rfl rfl eg)]
      simp [go_sem, e0]
      exact hK _ _ (Below.refl _ _) rfl
    · intro listed A0 W hA hr K hK
      have eg : A0.tmps[33]?.getD undef = .bool true := slot_is (hA.val 21 _ rfl (hr ⟨21, .guard⟩ (by simp) rfl))
      have e34 : A0.tmps[34]?.getD undef = .slice A M.length c := slot_is (hA.val 22 _ rfl (hr ⟨22, .data⟩ (by simp) rfl))
      rw [if_pos (FreeG.wanted_yes rfl rfl rfl eg)]
      simp [go_sem, e34]
      refine (HOD.out W hA.c).mono ?_
      rintro e' w' ⟨A1, p1, rfl, h1, hb⟩
      exact hK _ _ hb ⟨A1, p1, rfl, h1⟩
    · intro listed A0 W hA hr K hK
      have eg : A0.tmps[33]?.getD undef = .bool true := slot_is (hA.val 21 _ rfl (hr ⟨21, .guard⟩ (by simp) rfl))
      have e0 : A0.tmps[0]?.getD undef = .slice A M.length c := slot_is ((hA.kept 0 (Free.not_dst (by kernel_rfl))).trans rfl)
      rw [if_pos (FreeG.wanted_yes rfl rfl rfl eg)]
      simp [go_sem, e0]
      exact hK _ _ (Below.refl _ _) rfl
    · intro listed A0 W hA hr K hK
      have eg : A0.tmps[33]?.getD undef = .bool true := slot_is (hA.val 21 _ rfl (hr ⟨21, .guard⟩ (by simp) rfl))
      have e36 : A0.tmps[36]?.getD undef = .slice A M.length c := slot_is (hA.val 24 _ rfl (hr ⟨24, .data⟩ (by simp) rfl))
      rw [if_pos (FreeG.wanted_yes rfl rfl rfl eg)]
      simp [go_sem, e36]
      refine (HRF.out W hA.c).mono ?_
      rintro e' w' ⟨A1, p1, rfl, h1, hb⟩
      exact hK _ _ hb ⟨A1, p1, rfl, h1⟩
    · intro listed A0 W hA hr K hK
      have eg : A0.tmps[33]?.getD undef = .bool true := slot_is (hA.val 21 _ rfl (hr ⟨21, .guard⟩ (by simp) rfl))
      have e37 : ∃ A p, A0.tmps[37]?.getD undef = .slice A (M).length p ∧ CR W A (M).length M := slot_crs (hA.val 25 _ rfl (hr ⟨25, .data⟩ (by simp) rfl))
      rw [if_pos (FreeG.wanted_yes rfl rfl rfl eg)]
      obtain ⟨A37, p37, h37, s37⟩ := e37
      simp [go_sem, h37]
      refine (HRO.out _ _ W s37).mono ?_
      rintro e' w' ⟨A1, p1, rfl, h1, hb⟩
      exact hK _ _ hb ⟨A1, p1, rfl, h1⟩
    · intro listed A0 W hA hr K hK
      have eg : A0.tmps[33]?.getD undef = .bool true := slot_is (hA.val 21 _ rfl (hr ⟨21, .guard⟩ (by simp) rfl))
      have e35 : ∃ A p, A0.tmps[35]?.getD undef = .slice A (order M).length p ∧ VR W A (order M).length (iv (order M)) := slot_ivs (hA.val 23 _ rfl (hr ⟨23, .data⟩ (by simp) rfl))
      have e38 : ∃ A p, A0.tmps[38]?.getD undef = .slice A (order M).length p ∧ VR W A (order M).length (iv (order M)) := slot_ivs (hA.val 26 _ rfl (hr ⟨26, .data⟩ (by simp) rfl))
      rw [if_pos (FreeG.wanted_yes rfl rfl rfl eg)]
      obtain ⟨A35, p35, h35, s35⟩ := e35
      obtain ⟨A38, p38, h38, s38⟩ := e38
      simp [go_sem, h35, h38]
      refine (HIN.out _ _ _ _ W s35 s38).mono ?_
      rintro e' w' ⟨rfl, hb⟩
      exact hK _ _ hb rfl
    · intro listed A0 W hA hr K hK
      have e33 : A0.tmps[33]?.getD undef = .bool true := slot_is (hA.val 21 _ rfl (hr ⟨21, .data⟩ (by simp) rfl))
      have e39 : A0.tmps[39]?.getD undef = .bool true := slot_is (hA.val 27 _ rfl (hr ⟨27, .data⟩ (by simp) rfl))
      rw [if_pos (FreeG.wanted_plain rfl)]
      simp [go_sem, e33, e39]
      exact hK _ _ (Below.refl _ _) rfl
    · intro listed A0 W hA hr K hK
      have e40 : A0.tmps[40]?.getD undef = .bool true := slot_is (hA.val 28 _ rfl (hr ⟨28, .data⟩ (by simp) rfl))
      rw [if_pos (FreeG.wanted_plain rfl)]
      simp [go_sem, e40]
      exact hK _ _ (Below.refl _ _) rfl
    · intro listed A0 W hA hr K hK
      have eg : A0.tmps[41]?.getD undef = .bool true := slot_is (hA.val 29 _ rfl (hr ⟨29, .guard⟩ (by simp) rfl))
      rw [if_pos (FreeG.wanted_yes rfl rfl rfl eg)]
      simp [go_sem]
      refine (HFX.out W).mono ?_
      rintro e' w' ⟨rfl, hb⟩
      exact hK _ _ hb rfl
    · intro listed A0 W hA hr K hK
      have e41 : A0.tmps[41]?.getD undef = .bool true := slot_is (hA.val 29 _ rfl (hr ⟨29, .data⟩ (by simp) rfl))
      have e42 : A0.tmps[42]?.getD undef = .bool true := slot_is (hA.val 30 _ rfl (hr ⟨30, .data⟩ (by simp) rfl))
      rw [if_pos (FreeG.wanted_plain rfl)]
      simp [go_sem, e41, e42]
      exact hK _ _ (Below.refl _ _) rfl
    · intro listed A0 W hA hr K hK
      have e43 : A0.tmps[43]?.getD undef = .bool true := slot_is (hA.val 31 _ rfl (hr ⟨31, .data⟩ (by simp) rfl))
      rw [if_pos (FreeG.wanted_plain rfl)]
      simp [go_sem, e43]
      exact hK _ _ (Below.refl _ _) rfl
  · intro A0 W hA
    have s6 : A0.tmps.getD 6 undef = .bool true := hA.val 32 _ rfl rfl
    have hsz := hA.slots
    have hde := hA.defers
    have hb := Lib.hid hA.c
    clear hA
    obtain ⟨tm, de⟩ := A0
    simp only at s6 hsz hde
    obtain ⟨y, hy, rfl⟩ := arrF44 hsz
    have t6 : y 6 = .bool true := (hy 6).symm.trans s6
    subst hde
    clear s6 hsz hy
    go_wp2_with fail
    go_ret
    exact ⟨by rw [t6]; rfl, HB0.out.trans (hb.out.mono HB0.out.size)⟩

set_option maxRecDepth 100000 in
theorem lifted (P : Prg) (os : Os) (started : os.Started) (H : Type) (enc : TypeId × Value → H) :
    ReturnsInHanded {} Try.checked os 3 .any (Rows.victimPicksSpec.pre6 enc Try.prog Try.f3 Rows.victimPicksRow.domain false) (Rows.victimPicksSpec.post enc Try.prog Try.f3 false true false false) := by
  refine returnsInHanded_of_change (C := Try.checked) own started (by kernel_rfl) Try.func3
    (ChangeSpec.witness6 (enc := enc) (C := Try.checked) false ⟨#[], #[.slice none 0 0, .agg #[.int .i64 0, .int .i64 0, .int .i64 0, .int .i64 0, .int .u64 0], .agg #[.int .i64 0, .int .i64 0, .int .i64 0, .int .i64 0, .int .u64 0]], []⟩ 8 (by kernel_rfl) (by kernel_rfl) (by kernel_rfl) (by kernel_rfl)) ?_
  intro W base args ds gs before hval0 hW hcnd _
  have hval : ∀ (j : Nat) t v, Try.f3.params[j]? = some t → args[j]? = some v → Value.okWide Try.prog W .any base t v := hval0
  have hW' := hW
  obtain ⟨p, q, hA0, hV, rfl, hfz, hnd⟩ := hW
  have hA : DataW.TrodAll enc Try.prog W 0 (fun _ => true) true Try.f3.params.toList args.toList ds p := hA0
  rw [Try.params3] at hA hval
  obtain ⟨v0, vs0, d0, ds0, p0, q0, hargs, rfl, rfl, h0, r0⟩ := trodAll_cons hA
  obtain ⟨v1, vs1, d1, ds1, p1, q1, rfl, rfl, rfl, h1, r1⟩ := trodAll_cons r0
  obtain ⟨v2, vs2, d2, ds2, p2, q2, rfl, rfl, rfl, h2, r2⟩ := trodAll_cons r1
  obtain ⟨rfl, rfl, rfl⟩ := trodAll_nil r2
  obtain rfl : args = #[v0, v1, v2] := by cases args; simp_all
  obtain ⟨rfl, rfl⟩ := trodVars_none hV
  obtain ⟨A0, n0, c0, L0, rfl, hn0, hp0, hL0, ho0⟩ := open_cands (hval 0 22 v0 rfl rfl) h0
  obtain ⟨x1, rfl, hx1⟩ := open_cand (hval 1 25 v1 rfl rfl) h1
  obtain ⟨x2, rfl, hx2⟩ := open_cand (hval 2 25 v2 rfl rfl) h2
  clear hA0 hval0
  try simp only [List.append_nil] at hW'
  try simp only [List.nil_append] at hW'
  have hlt := fun x hx => hW'.lt x hx
  refine (walk P A0 n0 c0 L0 x1 x2 W hL0 hn0 hp0 ho0 hx1 hx2).mono fun e W' ⟨he, hg⟩ => ?_
  subst he
  refine ⟨_, rfl, post_mem hW' (fun _ _ _ => (trodAll_cons_mk (shut_bool Try.underlying4 _) trodAll_mk0)) (fun sp hsp => ?_) (fun _ => rfl) hg (ok_one (by kernel_rfl) rfl (okWide_bool_mk Try.underlying4 _))⟩
  have hall := (trodAll_cons_mk (arg_same (sp := sp) laid (by kernel_rfl) (of_decide_eq_true (by kernel_rfl)) h0 hg (by intro x hx; simp_all) hlt hsp) (trodAll_cons_mk (arg_same (sp := sp) laid (by kernel_rfl) (of_decide_eq_true (by kernel_rfl)) h1 hg (by intro x hx; simp_all) hlt hsp) (trodAll_cons_mk (arg_same (sp := sp) laid (by kernel_rfl) (of_decide_eq_true (by kernel_rfl)) h2 hg (by intro x hx; simp_all) hlt hsp) trodAll_mk0)))
  try simp only [List.append_nil] at hall
  try simp only [List.nil_append] at hall
  exact hall

theorem over (P : Prg) : Rows.victimPicksRow.holds Try.pinned (OpenSpec.ofChange Rows.victimPicksSpec) :=
  OpenClaim.holds_of_wide 3 Try.f3 rfl rfl rfl rfl rfl rfl rfl ⟨rfl, rfl, rfl, rfl, rfl⟩ rfl rfl rfl rfl rfl (by kernel_rfl) Try.func3 (by kernel_rfl)
    (of_decide_eq_true (by kernel_rfl)) (by unfold Func.isWrapper; first | (rw [if_pos (by decide +kernel)]; kernel_rfl) | (rw [if_neg (by decide +kernel)]; exact ⟨rfl, rfl⟩))
    (fun os started H enc _ => lifted P os started H enc)

end Go.Proofs.Ytgepkomomjmmhaa.victimPicks
