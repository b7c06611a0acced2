/- The program's Take. -/
import Derived.Test.YtfhdckmpodmejaaSwG
namespace Go.Proofs.Ytfhdckmpodmejaa.Sw
open Go.ChangeShapes Go.WideShapes Go.ChangeAt Go.RowKit Go.Lib Go.Joins Go.Deep
open Sp Rw
set_option linter.unusedVariables false
set_option maxRecDepth 100000

theorem less_none {l : List Int} {x : Int} (h : x ∉ l) : less l x = l := by
  unfold less
  rw [List.filter_eq_self]
  intro y hy
  simp only [decide_eq_true_eq]
  rintro rfl
  exact h hy
theorem less_at {l : List Int} {x : Int} {i : Nat} (hd : l.Nodup) (hx : l[i]? = some x) : less l x = l.take i ++ l.drop (i + 1) := by
  have hlt := (List.getElem?_eq_some_iff.1 hx).1
  have hg := (List.getElem?_eq_some_iff.1 hx).2
  have e : l = l.take i ++ x :: l.drop (i + 1) := by
    have h1 := (List.take_append_drop i l).symm
    rw [List.drop_eq_getElem_cons hlt, hg] at h1
    exact h1
  have h2 := hd
  rw [e, List.nodup_append] at h2
  obtain ⟨_, h3, h4⟩ := h2
  have h5 : x ∉ l.take i := fun h => h4 x h x (List.mem_cons_self ..) rfl
  have h6 : x ∉ l.drop (i + 1) := (List.nodup_cons.1 h3).1
  have h7 : less (l.take i ++ x :: l.drop (i + 1)) x = less (l.take i) x ++ less (l.drop (i + 1)) x := by
    unfold less
    rw [List.filter_append, List.filter_cons_of_neg (by simp)]
  rw [← e, less_none h5, less_none h6] at h7
  exact h7
set_option maxHeartbeats 1000000 in
theorem ptake_any (s : St) (A : Option Addr) (p : Nat) (x n : Int) (w : World) (HR : Right s) (hA : VR w A s.t.length (iv s.t)) :
    Calls Try.prog 23 #[.agg (sc s A p), .int .i64 x, .int .i64 n] w (OutP w (takes s x n)) := by
  obtain ⟨b0, hb0⟩ : ∃ b0, w.heap.size = b0 := ⟨_, rfl⟩
  obtain ⟨W, hW⟩ : ∃ W, (w.alloc (.cells (sc s A p) 25)).alloc (.cells #[.slice none 0 0, .int .i64 0, .int .i64 0, .int .i64 0] 25) = W := ⟨_, rfl⟩
  have HB := Lib.hid (show Below w.heap.size w W by rw [← hW]; exact (below1 _ _).alloc (by simp) _)
  have BS : Hid (Sp.Blk W b0 25 (sc s A p)) := Lib.hid (by rw [← hW, ← hb0]; exact (Sp.Blk.new _ _ _).later (below1 _ _))
  have BR : Hid (Sp.Blk W (b0 + 1) 25 #[.slice none 0 0, .int .i64 0, .int .i64 0, .int .i64 0]) := Lib.hid (by rw [← hW, ← hb0]; exact Sp.Blk.at_ _ _ _ (by simp))
  have HV := Lib.hid (hA.later HB.out)
  have HZ := Lib.hid hb0
  have hn : s.t.length < 1000 := by have := right_len HR; omega
  have CC : Hid (∀ X, Below W.heap.size W X → Calls Try.prog 36 #[.agg (sc s A p)] X fun e w' => ∃ A' p', e = .returned (.agg (sc s A' p')) ∧ Sp.Sep X w' [row A' p' s.t]) := Lib.hid (fun X hX => copied_any s A p X (HV.out.later hX) hn)
  obtain ⟨R, hR⟩ : ∃ R, At s.t x R := by
    by_cases h : x ∈ s.t
    · obtain ⟨i, h1, h2⟩ := first_at h
      exact ⟨_, .inr ⟨i, rfl, h1, h2⟩⟩
    · exact ⟨-1, .inl ⟨rfl, h⟩⟩
  have HAT := Lib.hid hR
  have CI : Hid (∀ X, Below W.heap.size W X → Calls Try.prog 37 #[.slice A s.t.length p, .int .i64 x] X fun e w' => e = .returned (.int .i64 R) ∧ w' = X) := Lib.hid (fun X hX => idx_any (HV.out.later hX) (by omega) HAT.out)
  have CV := Lib.hid (fun X => hv_any s A p X HR)
  have CL := Lib.hid (fun X => len_any n X)
  have HN := Lib.hid hn
  have HRR := Lib.hid HR
  have H0 : Hid (Below W.heap.size W W) := Lib.hid (Below.refl _ _)
  clear hA hn HR hR
  have s0 : W.cell? ⟨b0, 0, none⟩ = _ := (st_cells (BS.out.later H0.out)).1; have s1 : W.cell? ⟨b0, 1, none⟩ = _ := (st_cells (BS.out.later H0.out)).2.1; have s2 : W.cell? ⟨b0, 2, none⟩ = _ := (st_cells (BS.out.later H0.out)).2.2.1; have s3 : W.cell? ⟨b0, 3, none⟩ = _ := (st_cells (BS.out.later H0.out)).2.2.2
  go_enter Try.func23, Try.ntmps23
  go_upto_region 2 with (go_at_call 37; refine (CI.out _ H0.out).mono ?_; rintro e0 w0 ⟨rfl, rfl⟩)
  clear hW hb0
  by_cases k1 : 0 ≤ s.v
  · rw [decide_eq_true k1] at CV
    have HQ : Hid (takes s x n = none) := Lib.hid (by unfold takes; rw [if_pos (.inl k1)])
    clear k1
    go_wp2_with (first
      | (go_at_call 34; refine (CV.out _).mono ?_; rintro e1 w1 ⟨rfl, hb1⟩; have H1 := Lib.hid hb1; clear hb1 s0 s1 s2 s3; have b3 := BR.out.later H1.out; have s0 : w1.cell? ⟨b0, 0, none⟩ = _ := (st_cells (BS.out.later H1.out)).1; have s1 : w1.cell? ⟨b0, 1, none⟩ = _ := (st_cells (BS.out.later H1.out)).2.1; have s2 : w1.cell? ⟨b0, 2, none⟩ = _ := (st_cells (BS.out.later H1.out)).2.2.1; have s3 : w1.cell? ⟨b0, 3, none⟩ = _ := (st_cells (BS.out.later H1.out)).2.2.2)
      | (go_at_call 38; refine (CL.out _).mono ?_; rintro e2 w2 ⟨rfl, rfl⟩)
      | (with_reducible refine store_p rfl (.tmp 6) (.tmp 25) rfl (b0 + 1) rfl rfl b3 ?_))
    refine bodyPost_ret (res_p2 rfl _ _ _ rfl rfl (b3.row _)) rfl ?_
    exact ⟨none, 0, by rw [HQ.out]; rfl, by rw [HQ.out]; exact sep_zero (below_row (HB.out.trans (H1.out.mono HB.out.size)) (by have := HZ.out; omega) _)⟩
  rw [decide_eq_false k1] at CV
  by_cases k2 : x ∈ s.t
  case neg =>
    have hr : R = -1 := at_none HAT.out k2
    subst hr
    have HQ : Hid (takes s x n = none) := Lib.hid (by unfold takes; rw [if_pos (.inr (.inl k2))])
    clear k1 k2
    go_wp2_with (first
      | (go_at_call 34; refine (CV.out _).mono ?_; rintro e1 w1 ⟨rfl, hb1⟩; have H1 := Lib.hid hb1; clear hb1 s0 s1 s2 s3; have b3 := BR.out.later H1.out; have s0 : w1.cell? ⟨b0, 0, none⟩ = _ := (st_cells (BS.out.later H1.out)).1; have s1 : w1.cell? ⟨b0, 1, none⟩ = _ := (st_cells (BS.out.later H1.out)).2.1; have s2 : w1.cell? ⟨b0, 2, none⟩ = _ := (st_cells (BS.out.later H1.out)).2.2.1; have s3 : w1.cell? ⟨b0, 3, none⟩ = _ := (st_cells (BS.out.later H1.out)).2.2.2)
      | (go_at_call 38; refine (CL.out _).mono ?_; rintro e2 w2 ⟨rfl, rfl⟩)
      | (with_reducible refine store_p rfl (.tmp 6) (.tmp 25) rfl (b0 + 1) rfl rfl b3 ?_))
    refine bodyPost_ret (res_p2 rfl _ _ _ rfl rfl (b3.row _)) rfl ?_
    exact ⟨none, 0, by rw [HQ.out]; rfl, by rw [HQ.out]; exact sep_zero (below_row (HB.out.trans (H1.out.mono HB.out.size)) (by have := HZ.out; omega) _)⟩
  obtain ⟨i, hi1, hi2⟩ := first_at k2
  have hr : R = (i : Int) := at_some HAT.out hi1 hi2
  subst hr
  have hlt := (List.getElem?_eq_some_iff.1 hi1).1
  have d2 : decide ((i : Int) < 0) = false := decide_eq_false (by omega)
  have d2' : ¬ ((i : Int) < 0) := by omega
  by_cases k3 : 0 ≤ n ∧ n ≤ 30
  case neg =>
    rw [decide_eq_false k3] at CL
    have HQ : Hid (takes s x n = none) := Lib.hid (by unfold takes; rw [if_pos (.inr (.inr (by omega)))])
    clear k1 k2 k3
    go_wp2_with (first
      | (go_at_call 34; refine (CV.out _).mono ?_; rintro e1 w1 ⟨rfl, hb1⟩; have H1 := Lib.hid hb1; clear hb1 s0 s1 s2 s3; have b3 := BR.out.later H1.out; have s0 : w1.cell? ⟨b0, 0, none⟩ = _ := (st_cells (BS.out.later H1.out)).1; have s1 : w1.cell? ⟨b0, 1, none⟩ = _ := (st_cells (BS.out.later H1.out)).2.1; have s2 : w1.cell? ⟨b0, 2, none⟩ = _ := (st_cells (BS.out.later H1.out)).2.2.1; have s3 : w1.cell? ⟨b0, 3, none⟩ = _ := (st_cells (BS.out.later H1.out)).2.2.2)
      | (go_at_call 38; refine (CL.out _).mono ?_; rintro e2 w2 ⟨rfl, rfl⟩)
      | (with_reducible refine store_p rfl (.tmp 6) (.tmp 25) rfl (b0 + 1) rfl rfl b3 ?_))
    refine bodyPost_ret (res_p2 rfl _ _ _ rfl rfl (b3.row _)) rfl ?_
    exact ⟨none, 0, by rw [HQ.out]; rfl, by rw [HQ.out]; exact sep_zero (below_row (HB.out.trans (H1.out.mono HB.out.size)) (by have := HZ.out; omega) _)⟩
  rw [decide_eq_true k3] at CL
  have HQ : Hid (takes s x n = some ⟨less s.t x, x, 0, n⟩) := Lib.hid (by unfold takes; rw [if_neg (by rintro (h | h | h | h); exact k1 h; exact h k2; omega; omega)])
  have HL : Hid (less s.t x = s.t.take i ++ s.t.drop (i + 1)) := Lib.hid (less_at HRR.out.t.2 hi1)
  have HC0 : Hid (s.c = 0) := Lib.hid (by have := HRR.out.v; unfold VicOk at this; omega)
  have HI := Lib.hid hlt
  have wi : IntKind.i64.wrap ((i : Int) + 1) = (i : Int) + 1 := IntWalk.i64_in _ (by have := HN.out; omega)
  clear k1 k2 k3 hi1 hi2 hlt
  go_upto_region 4 with (first
  | (go_at_call 34; refine (CV.out _).mono ?_; rintro e1 w1 ⟨rfl, hb1⟩; have H1 := Lib.hid hb1; clear hb1 s0 s1 s2 s3; have b3 := BR.out.later H1.out; have s0 : w1.cell? ⟨b0, 0, none⟩ = _ := (st_cells (BS.out.later H1.out)).1; have s1 : w1.cell? ⟨b0, 1, none⟩ = _ := (st_cells (BS.out.later H1.out)).2.1; have s2 : w1.cell? ⟨b0, 2, none⟩ = _ := (st_cells (BS.out.later H1.out)).2.2.1; have s3 : w1.cell? ⟨b0, 3, none⟩ = _ := (st_cells (BS.out.later H1.out)).2.2.2)
  | (go_at_call 38; refine (CL.out _).mono ?_; rintro e2 w2 ⟨rfl, rfl⟩)
  | (with_reducible refine store_p rfl (.tmp 6) (.tmp 25) rfl (b0 + 1) rfl rfl b3 ?_))
  go_upto_region 5 with (go_at_call 36; refine (CC.out _ H1.out).mono ?_; rintro e3 w3 ⟨A3, p3, rfl, S3⟩; have H3 := Lib.hid S3; have b4 := b3.later S3.below; clear S3 s0 s1 s2 s3)
  have S4 := loc_alloc H3.out 25 (sc s A3 p3)
  have CDL := Lib.hid (del_any S4 HI.out)
  rw [← HL.out] at CDL
  have q0 := (loc_blk S4 (k := 1) rfl).cell 0
  simp only [List.getElem?_toArray, List.getElem?_cons_zero] at q0
  change Code.wp _ _ _ _ (w3.alloc (.cells (sc s A3 p3) 25))
  clear S4 H3 b4 b3 CC CI
  generalize w3.alloc (.cells (sc s A3 p3) 25) = w4 at *
  generalize w3.heap.size = n9 at *
  clear w3
  obtain ⟨L, hL⟩ : ∃ L, less s.t x = L := ⟨_, rfl⟩
  rw [hL] at CDL HQ
  go_upto_region 6 with (go_at_call 39; refine CDL.out.mono ?_; rintro e5 w5 ⟨rfl, S5⟩; have H5 := Lib.hid S5; have q0 := (loc_blk S5 (k := 1) rfl).cell 0; have q1 := (loc_blk S5 (k := 1) rfl).frozen 0; simp only [List.getElem?_toArray, List.getElem?_cons_zero] at q0; clear S5)
  have S6 : Sp.Sep w2 (w5.setCell ⟨n9, 0, none⟩ (.slice A3 L.length p3)) [row A3 p3 L, locI [(n9, 25, #[.slice A3 L.length p3, .int .i64 s.v, .int .i64 s.c, .int .i64 s.n])]] := loc_cell H5.out (k := 1) rfl 0 (.slice A3 L.length p3)
  have H6 := Lib.hid S6
  clear S6 H5 q0 q1 CDL
  generalize w5.setCell ⟨n9, 0, none⟩ (.slice A3 L.length p3) = w6 at *
  clear w5
  have q1 := (loc_blk H6.out (k := 1) rfl).cell 1
  have q2 := (loc_blk H6.out (k := 1) rfl).cell 3
  have f1 := (loc_blk H6.out (k := 1) rfl).frozen 1
  have f2 := (loc_blk H6.out (k := 1) rfl).frozen 3
  simp only [List.getElem?_toArray, List.getElem?_cons_zero, List.getElem?_cons_succ] at q1 q2
  have S7 : Sp.Sep w2 (w6.setCell ⟨n9, 1, none⟩ (.int .i64 x)) [row A3 p3 L, locI [(n9, 25, #[.slice A3 L.length p3, .int .i64 x, .int .i64 s.c, .int .i64 s.n])]] := loc_cell H6.out (k := 1) rfl 1 (.int .i64 x)
  have S8 : Sp.Sep w2 ((w6.setCell ⟨n9, 1, none⟩ (.int .i64 x)).setCell ⟨n9, 3, none⟩ (.int .i64 n)) [row A3 p3 L, locI [(n9, 25, #[.slice A3 L.length p3, .int .i64 x, .int .i64 s.c, .int .i64 n])]] := loc_cell S7 (k := 1) rfl 3 (.int .i64 n)
  have H8 := Lib.hid S8
  clear S7 S8
  go_upto_region 7 with fail
  generalize (w6.setCell ⟨n9, 1, none⟩ (.int .i64 x)).setCell ⟨n9, 3, none⟩ (.int .i64 n) = w8 at *
  clear q1 q2 f1 f2 H6
  have b8 := loc_blk H8.out (k := 1) rfl
  have b9 := BR.out.later (H1.out.trans (H8.out.below.mono H1.out.size))
  go_wp2_with (first
    | (with_reducible refine load_p rfl (.tmp 9) rfl n9 rfl b8 ?_)
    | (with_reducible refine store_p rfl (.tmp 6) (.tmp 39) rfl (b0 + 1) rfl rfl b9 ?_))
  refine bodyPost_ret (res_p2 rfl _ _ _ rfl rfl (b9.row _)) rfl ?_
  have hl2 := BR.out.lt
  have hl3 := H1.out.size
  have hz := HZ.out
  refine ⟨A3, p3, by rw [HQ.out, HC0.out]; rfl, ?_⟩
  rw [HQ.out]
  exact sep_base (sep_pick H8.out [0] (by simp) rfl) (HB.out.trans (H1.out.mono HB.out.size)) ((Only.refl _ _).setRow (.inl ⟨by omega, by omega⟩) _)
end Go.Proofs.Ytfhdckmpodmejaa.Sw
