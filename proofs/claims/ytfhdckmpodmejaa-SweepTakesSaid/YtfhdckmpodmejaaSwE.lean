/- The program's Idle, Right, Next, Need and Left. -/
import Derived.Test.YtfhdckmpodmejaaSwC
namespace Go.Proofs.Ytfhdckmpodmejaa.Sw
open Go.ChangeShapes Go.WideShapes Go.ChangeAt Go.RowKit Go.Lib Go.Joins Go.Deep
open Sp Rw
set_option linter.unusedVariables false
set_option maxRecDepth 100000

set_option maxHeartbeats 1000000 in
theorem pidle_any (w : World) : Calls Try.prog 8 #[] w fun e w' => e = .returned (.agg (sc idle none 0)) ∧ Below w.heap.size w w' := by
  go_enter Try.func8, Try.ntmps8
  go_wp2_with fail
  refine bodyPost_ret (res_p1 rfl _ _ _ rfl (Sp.Blk.new _ _ _)) rfl ?_
  exact ⟨rfl, below1 _ _⟩
set_option maxHeartbeats 1000000 in
theorem seg_any (x : Int) (w : World) : Calls Try.prog 40 #[.int .i64 x] w fun e w' => e = .returned (.bool (decide (0 ≤ x ∧ x ≤ 15))) ∧ w' = w := by
  by_cases h1 : 0 ≤ x
  · have d1 : decide (0 ≤ x) = true := decide_eq_true h1
    by_cases h2 : x < 16
    · have d2 : decide (x < 16) = true := decide_eq_true h2
      rw [decide_eq_true (show 0 ≤ x ∧ x ≤ 15 by omega)]
      clear h1 h2
      go_enter Try.func40, Try.ntmps40
      go_wp2_with fail
      go_ret
      exact ⟨rfl, rfl⟩
    · have d2 : decide (x < 16) = false := decide_eq_false h2
      rw [decide_eq_false (show ¬ (0 ≤ x ∧ x ≤ 15) by omega)]
      clear h1 h2
      go_enter Try.func40, Try.ntmps40
      go_wp2_with fail
      go_ret
      exact ⟨rfl, rfl⟩
  · have d1 : decide (0 ≤ x) = false := decide_eq_false h1
    rw [decide_eq_false (show ¬ (0 ≤ x ∧ x ≤ 15) by omega)]
    clear h1
    go_enter Try.func40, Try.ntmps40
    go_wp2_with fail
    go_ret
    exact ⟨rfl, rfl⟩
set_option maxHeartbeats 1000000 in
theorem len_any (x : Int) (w : World) : Calls Try.prog 38 #[.int .i64 x] w fun e w' => e = .returned (.bool (decide (0 ≤ x ∧ x ≤ 30))) ∧ w' = w := by
  by_cases h1 : 0 ≤ x
  · have d1 : decide (0 ≤ x) = true := decide_eq_true h1
    by_cases h2 : x ≤ 30
    · have d2 : decide (x ≤ 30) = true := decide_eq_true h2
      rw [decide_eq_true (show 0 ≤ x ∧ x ≤ 30 by omega)]
      clear h1 h2
      go_enter Try.func38, Try.ntmps38
      go_wp2_with fail
      go_ret
      exact ⟨rfl, rfl⟩
    · have d2 : decide (x ≤ 30) = false := decide_eq_false h2
      rw [decide_eq_false (show ¬ (0 ≤ x ∧ x ≤ 30) by omega)]
      clear h1 h2
      go_enter Try.func38, Try.ntmps38
      go_wp2_with fail
      go_ret
      exact ⟨rfl, rfl⟩
  · have d1 : decide (0 ≤ x) = false := decide_eq_false h1
    rw [decide_eq_false (show ¬ (0 ≤ x ∧ x ≤ 30) by omega)]
    clear h1
    go_enter Try.func38, Try.ntmps38
    go_wp2_with fail
    go_ret
    exact ⟨rfl, rfl⟩
set_option maxHeartbeats 1000000 in
theorem hv_any (s : St) (A : Option Addr) (p : Nat) (w : World) (HR : Right s) :
    Calls Try.prog 34 #[.agg (sc s A p)] w fun e w' => e = .returned (.bool (decide (0 ≤ s.v))) ∧ Below w.heap.size w w' := by
  obtain ⟨b0, hb0⟩ : ∃ b0, w.heap.size = b0 := ⟨_, rfl⟩
  obtain ⟨W, hW⟩ : ∃ W, w.alloc (.cells (sc s A p) 25) = W := ⟨_, rfl⟩
  have HB := Lib.hid (show Below w.heap.size w W by rw [← hW]; exact below1 _ _)
  have BS : Hid (Sp.Blk W b0 25 (sc s A p)) := Lib.hid (by rw [← hW, ← hb0]; exact Sp.Blk.new _ _ _)
  have H0 : Hid (Below W.heap.size W W) := Lib.hid (Below.refl _ _)
  have s0 : W.cell? ⟨b0, 0, none⟩ = _ := (st_cells (BS.out.later H0.out)).1; have s1 : W.cell? ⟨b0, 1, none⟩ = _ := (st_cells (BS.out.later H0.out)).2.1; have s2 : W.cell? ⟨b0, 2, none⟩ = _ := (st_cells (BS.out.later H0.out)).2.2.1; have s3 : W.cell? ⟨b0, 3, none⟩ = _ := (st_cells (BS.out.later H0.out)).2.2.2
  by_cases k1 : s.v = -1
  · have d1 : decide (0 ≤ s.v) = false := decide_eq_false (by omega)
    rw [d1]
    rw [k1] at s1
    clear k1 d1
    go_enter Try.func34, Try.ntmps34
    go_upto_region 1 with fail
    clear hW hb0
    go_wp2_with fail
    go_ret
    exact ⟨rfl, HB.out⟩
  · have d1 : decide (0 ≤ s.v) = true := decide_eq_true (by have := HR.v; unfold VicOk at this; omega)
    have d2 : (s.v != -1) = true := by simp; exact k1
    rw [d1]
    clear k1 d1
    go_enter Try.func34, Try.ntmps34
    go_upto_region 1 with fail
    clear hW hb0
    go_wp2_with fail
    go_ret
    exact ⟨rfl, HB.out⟩
set_option maxHeartbeats 1000000 in
theorem pnext_any (s : St) (A : Option Addr) (p : Nat) (g : Bool) (w : World) (HR : Right s) :
    Calls Try.prog 16 #[.agg (sc s A p), .bool g] w fun e w' => e = .returned (.int .i64 (next s g)) ∧ Below w.heap.size w w' := by
  obtain ⟨b0, hb0⟩ : ∃ b0, w.heap.size = b0 := ⟨_, rfl⟩
  obtain ⟨W, hW⟩ : ∃ W, w.alloc (.cells (sc s A p) 25) = W := ⟨_, rfl⟩
  have HB := Lib.hid (show Below w.heap.size w W by rw [← hW]; exact below1 _ _)
  have BS : Hid (Sp.Blk W b0 25 (sc s A p)) := Lib.hid (by rw [← hW, ← hb0]; exact Sp.Blk.new _ _ _)
  have H0 : Hid (Below W.heap.size W W) := Lib.hid (Below.refl _ _)
  have s0 : W.cell? ⟨b0, 0, none⟩ = _ := (st_cells (BS.out.later H0.out)).1; have s1 : W.cell? ⟨b0, 1, none⟩ = _ := (st_cells (BS.out.later H0.out)).2.1; have s2 : W.cell? ⟨b0, 2, none⟩ = _ := (st_cells (BS.out.later H0.out)).2.2.1; have s3 : W.cell? ⟨b0, 3, none⟩ = _ := (st_cells (BS.out.later H0.out)).2.2.2
  have CV := Lib.hid (fun X => hv_any s A p X HR)
  go_enter Try.func16, Try.ntmps16
  go_upto_region 1 with fail
  clear hW hb0
  clear s0 s1 s2 s3
  have s0 : W.cell? ⟨b0, 0, none⟩ = _ := (st_cells (BS.out.later H0.out)).1; have s1 : W.cell? ⟨b0, 1, none⟩ = _ := (st_cells (BS.out.later H0.out)).2.1; have s2 : W.cell? ⟨b0, 2, none⟩ = _ := (st_cells (BS.out.later H0.out)).2.2.1; have s3 : W.cell? ⟨b0, 3, none⟩ = _ := (st_cells (BS.out.later H0.out)).2.2.2
  by_cases k1 : 0 ≤ s.v
  · rw [decide_eq_true k1] at CV
    by_cases k2 : s.c < s.n
    · have d2 : decide (s.n ≤ s.c) = false := decide_eq_false (by omega)
      have HQ : Hid (next s g = 3) := Lib.hid (by unfold next; rw [if_pos ⟨k1, k2⟩])
      clear k1 k2
      go_wp2_with (first
        | (go_at_call 34; refine (CV.out _).mono ?_; rintro e2 w2 ⟨rfl, hb2⟩; have H2 := Lib.hid (H1.out.trans (hb2.mono H1.out.size)); clear hb2 s0 s1 s2 s3; have s0 : w2.cell? ⟨b0, 0, none⟩ = _ := (st_cells (BS.out.later H2.out)).1; have s1 : w2.cell? ⟨b0, 1, none⟩ = _ := (st_cells (BS.out.later H2.out)).2.1; have s2 : w2.cell? ⟨b0, 2, none⟩ = _ := (st_cells (BS.out.later H2.out)).2.2.1; have s3 : w2.cell? ⟨b0, 3, none⟩ = _ := (st_cells (BS.out.later H2.out)).2.2.2)
        | (go_at_call 34; refine (CV.out _).mono ?_; rintro e1 w1 ⟨rfl, hb1⟩; have H1 := Lib.hid (H0.out.trans (hb1.mono H0.out.size)); clear hb1 s0 s1 s2 s3; have s0 : w1.cell? ⟨b0, 0, none⟩ = _ := (st_cells (BS.out.later H1.out)).1; have s1 : w1.cell? ⟨b0, 1, none⟩ = _ := (st_cells (BS.out.later H1.out)).2.1; have s2 : w1.cell? ⟨b0, 2, none⟩ = _ := (st_cells (BS.out.later H1.out)).2.2.1; have s3 : w1.cell? ⟨b0, 3, none⟩ = _ := (st_cells (BS.out.later H1.out)).2.2.2))
      go_ret
      exact ⟨by rw [HQ.out]; rfl, HB.out.trans (H2.out.mono HB.out.size)⟩
    · have d2 : decide (s.n ≤ s.c) = true := decide_eq_true (by omega)
      have HQ : Hid (next s g = 4) := Lib.hid (by unfold next; rw [if_neg (fun h => k2 h.2), if_pos k1])
      clear k1 k2
      go_wp2_with (first
        | (go_at_call 34; refine (CV.out _).mono ?_; rintro e2 w2 ⟨rfl, hb2⟩; have H2 := Lib.hid (H1.out.trans (hb2.mono H1.out.size)); clear hb2 s0 s1 s2 s3; have s0 : w2.cell? ⟨b0, 0, none⟩ = _ := (st_cells (BS.out.later H2.out)).1; have s1 : w2.cell? ⟨b0, 1, none⟩ = _ := (st_cells (BS.out.later H2.out)).2.1; have s2 : w2.cell? ⟨b0, 2, none⟩ = _ := (st_cells (BS.out.later H2.out)).2.2.1; have s3 : w2.cell? ⟨b0, 3, none⟩ = _ := (st_cells (BS.out.later H2.out)).2.2.2)
        | (go_at_call 34; refine (CV.out _).mono ?_; rintro e1 w1 ⟨rfl, hb1⟩; have H1 := Lib.hid (H0.out.trans (hb1.mono H0.out.size)); clear hb1 s0 s1 s2 s3; have s0 : w1.cell? ⟨b0, 0, none⟩ = _ := (st_cells (BS.out.later H1.out)).1; have s1 : w1.cell? ⟨b0, 1, none⟩ = _ := (st_cells (BS.out.later H1.out)).2.1; have s2 : w1.cell? ⟨b0, 2, none⟩ = _ := (st_cells (BS.out.later H1.out)).2.2.1; have s3 : w1.cell? ⟨b0, 3, none⟩ = _ := (st_cells (BS.out.later H1.out)).2.2.2))
      go_ret
      exact ⟨by rw [HQ.out]; rfl, HB.out.trans (H1.out.mono HB.out.size)⟩
  · rw [decide_eq_false k1] at CV
    by_cases k3 : s.t = []
    · have d3 : s.t.length = 0 := by rw [k3]; rfl
      have d4 : decide (0 < s.t.length) = false := by rw [d3]; rfl
      have d5 : decide ((0 : Int) < (s.t.length : Int)) = false := by rw [d3]; rfl
      clear d3
      cases g with
      | true =>
        have HQ : Hid (next s true = 1) := Lib.hid (by unfold next; rw [if_neg (fun h => k1 h.1), if_neg k1, if_neg (by simp [k3]), if_pos rfl])
        clear k1 k3
        go_wp2_with (first
          | (go_at_call 34; refine (CV.out _).mono ?_; rintro e2 w2 ⟨rfl, hb2⟩; have H2 := Lib.hid (H1.out.trans (hb2.mono H1.out.size)); clear hb2 s0 s1 s2 s3; have s0 : w2.cell? ⟨b0, 0, none⟩ = _ := (st_cells (BS.out.later H2.out)).1; have s1 : w2.cell? ⟨b0, 1, none⟩ = _ := (st_cells (BS.out.later H2.out)).2.1; have s2 : w2.cell? ⟨b0, 2, none⟩ = _ := (st_cells (BS.out.later H2.out)).2.2.1; have s3 : w2.cell? ⟨b0, 3, none⟩ = _ := (st_cells (BS.out.later H2.out)).2.2.2)
          | (go_at_call 34; refine (CV.out _).mono ?_; rintro e1 w1 ⟨rfl, hb1⟩; have H1 := Lib.hid (H0.out.trans (hb1.mono H0.out.size)); clear hb1 s0 s1 s2 s3; have s0 : w1.cell? ⟨b0, 0, none⟩ = _ := (st_cells (BS.out.later H1.out)).1; have s1 : w1.cell? ⟨b0, 1, none⟩ = _ := (st_cells (BS.out.later H1.out)).2.1; have s2 : w1.cell? ⟨b0, 2, none⟩ = _ := (st_cells (BS.out.later H1.out)).2.2.1; have s3 : w1.cell? ⟨b0, 3, none⟩ = _ := (st_cells (BS.out.later H1.out)).2.2.2))
        go_ret
        exact ⟨by rw [HQ.out]; rfl, HB.out.trans (H2.out.mono HB.out.size)⟩
      | false =>
        have HQ : Hid (next s false = 0) := Lib.hid (by unfold next; rw [if_neg (fun h => k1 h.1), if_neg k1, if_neg (by simp [k3]), if_neg (by simp)])
        clear k1 k3
        go_wp2_with (first
          | (go_at_call 34; refine (CV.out _).mono ?_; rintro e2 w2 ⟨rfl, hb2⟩; have H2 := Lib.hid (H1.out.trans (hb2.mono H1.out.size)); clear hb2 s0 s1 s2 s3; have s0 : w2.cell? ⟨b0, 0, none⟩ = _ := (st_cells (BS.out.later H2.out)).1; have s1 : w2.cell? ⟨b0, 1, none⟩ = _ := (st_cells (BS.out.later H2.out)).2.1; have s2 : w2.cell? ⟨b0, 2, none⟩ = _ := (st_cells (BS.out.later H2.out)).2.2.1; have s3 : w2.cell? ⟨b0, 3, none⟩ = _ := (st_cells (BS.out.later H2.out)).2.2.2)
          | (go_at_call 34; refine (CV.out _).mono ?_; rintro e1 w1 ⟨rfl, hb1⟩; have H1 := Lib.hid (H0.out.trans (hb1.mono H0.out.size)); clear hb1 s0 s1 s2 s3; have s0 : w1.cell? ⟨b0, 0, none⟩ = _ := (st_cells (BS.out.later H1.out)).1; have s1 : w1.cell? ⟨b0, 1, none⟩ = _ := (st_cells (BS.out.later H1.out)).2.1; have s2 : w1.cell? ⟨b0, 2, none⟩ = _ := (st_cells (BS.out.later H1.out)).2.2.1; have s3 : w1.cell? ⟨b0, 3, none⟩ = _ := (st_cells (BS.out.later H1.out)).2.2.2))
        go_ret
        exact ⟨by rw [HQ.out]; rfl, HB.out.trans (H2.out.mono HB.out.size)⟩
    · have h4 : 0 < s.t.length := List.length_pos_iff.2 k3
      have d4 : decide (0 < s.t.length) = true := decide_eq_true h4
      have d5 : decide ((0 : Int) < (s.t.length : Int)) = true := decide_eq_true (by omega)
      have HQ : Hid (next s g = 2) := Lib.hid (by unfold next; rw [if_neg (fun h => k1 h.1), if_neg k1, if_pos k3])
      clear k1 k3
      go_wp2_with (first
        | (go_at_call 34; refine (CV.out _).mono ?_; rintro e2 w2 ⟨rfl, hb2⟩; have H2 := Lib.hid (H1.out.trans (hb2.mono H1.out.size)); clear hb2 s0 s1 s2 s3; have s0 : w2.cell? ⟨b0, 0, none⟩ = _ := (st_cells (BS.out.later H2.out)).1; have s1 : w2.cell? ⟨b0, 1, none⟩ = _ := (st_cells (BS.out.later H2.out)).2.1; have s2 : w2.cell? ⟨b0, 2, none⟩ = _ := (st_cells (BS.out.later H2.out)).2.2.1; have s3 : w2.cell? ⟨b0, 3, none⟩ = _ := (st_cells (BS.out.later H2.out)).2.2.2)
        | (go_at_call 34; refine (CV.out _).mono ?_; rintro e1 w1 ⟨rfl, hb1⟩; have H1 := Lib.hid (H0.out.trans (hb1.mono H0.out.size)); clear hb1 s0 s1 s2 s3; have s0 : w1.cell? ⟨b0, 0, none⟩ = _ := (st_cells (BS.out.later H1.out)).1; have s1 : w1.cell? ⟨b0, 1, none⟩ = _ := (st_cells (BS.out.later H1.out)).2.1; have s2 : w1.cell? ⟨b0, 2, none⟩ = _ := (st_cells (BS.out.later H1.out)).2.2.1; have s3 : w1.cell? ⟨b0, 3, none⟩ = _ := (st_cells (BS.out.later H1.out)).2.2.2))
      go_ret
      exact ⟨by rw [HQ.out]; rfl, HB.out.trans (H2.out.mono HB.out.size)⟩
set_option maxHeartbeats 1000000 in
theorem pneed_any (s : St) (A : Option Addr) (p : Nat) (k : Int) (w : World) (HR : Right s) :
    Calls Try.prog 12 #[.agg (sc s A p), .int .i64 k] w fun e w' => e = .returned (.int .i64 (need s k)) ∧ Below w.heap.size w w' := by
  obtain ⟨b0, hb0⟩ : ∃ b0, w.heap.size = b0 := ⟨_, rfl⟩
  obtain ⟨W, hW⟩ : ∃ W, w.alloc (.cells (sc s A p) 25) = W := ⟨_, rfl⟩
  have HB := Lib.hid (show Below w.heap.size w W by rw [← hW]; exact below1 _ _)
  have BS : Hid (Sp.Blk W b0 25 (sc s A p)) := Lib.hid (by rw [← hW, ← hb0]; exact Sp.Blk.new _ _ _)
  have H0 : Hid (Below W.heap.size W W) := Lib.hid (Below.refl _ _)
  have s0 : W.cell? ⟨b0, 0, none⟩ = _ := (st_cells (BS.out.later H0.out)).1; have s1 : W.cell? ⟨b0, 1, none⟩ = _ := (st_cells (BS.out.later H0.out)).2.1; have s2 : W.cell? ⟨b0, 2, none⟩ = _ := (st_cells (BS.out.later H0.out)).2.2.1; have s3 : W.cell? ⟨b0, 3, none⟩ = _ := (st_cells (BS.out.later H0.out)).2.2.2
  have CV := Lib.hid (fun X => hv_any s A p X HR)
  have wv : 0 ≤ s.v → IntKind.i64.wrap (s.n - s.c) = s.n - s.c := fun h => IntWalk.i64_in _ (by have := HR.v; unfold VicOk at this; omega)
  go_enter Try.func12, Try.ntmps12
  go_upto_region 1 with fail
  clear hW hb0
  by_cases k1 : 0 ≤ s.v
  · rw [decide_eq_true k1] at CV
    have wc := wv k1
    have HQ : Hid (need s k = s.n - s.c) := Lib.hid (by unfold need; rw [if_pos k1])
    clear k1 wv
    go_wp2_with (first
      | (go_at_call 34; refine (CV.out _).mono ?_; rintro e2 w2 ⟨rfl, hb2⟩; have H2 := Lib.hid (H1.out.trans (hb2.mono H1.out.size)); clear hb2 s0 s1 s2 s3; have s0 : w2.cell? ⟨b0, 0, none⟩ = _ := (st_cells (BS.out.later H2.out)).1; have s1 : w2.cell? ⟨b0, 1, none⟩ = _ := (st_cells (BS.out.later H2.out)).2.1; have s2 : w2.cell? ⟨b0, 2, none⟩ = _ := (st_cells (BS.out.later H2.out)).2.2.1; have s3 : w2.cell? ⟨b0, 3, none⟩ = _ := (st_cells (BS.out.later H2.out)).2.2.2)
      | (go_at_call 34; refine (CV.out _).mono ?_; rintro e1 w1 ⟨rfl, hb1⟩; have H1 := Lib.hid (H0.out.trans (hb1.mono H0.out.size)); clear hb1 s0 s1 s2 s3; have s0 : w1.cell? ⟨b0, 0, none⟩ = _ := (st_cells (BS.out.later H1.out)).1; have s1 : w1.cell? ⟨b0, 1, none⟩ = _ := (st_cells (BS.out.later H1.out)).2.1; have s2 : w1.cell? ⟨b0, 2, none⟩ = _ := (st_cells (BS.out.later H1.out)).2.2.1; have s3 : w1.cell? ⟨b0, 3, none⟩ = _ := (st_cells (BS.out.later H1.out)).2.2.2))
    go_ret
    exact ⟨by rw [HQ.out]; rfl, HB.out.trans (H1.out.mono HB.out.size)⟩
  · rw [decide_eq_false k1] at CV
    have HQ : Hid (need s k = k) := Lib.hid (by unfold need; rw [if_neg k1])
    clear k1 wv
    go_wp2_with (first
      | (go_at_call 34; refine (CV.out _).mono ?_; rintro e2 w2 ⟨rfl, hb2⟩; have H2 := Lib.hid (H1.out.trans (hb2.mono H1.out.size)); clear hb2 s0 s1 s2 s3; have s0 : w2.cell? ⟨b0, 0, none⟩ = _ := (st_cells (BS.out.later H2.out)).1; have s1 : w2.cell? ⟨b0, 1, none⟩ = _ := (st_cells (BS.out.later H2.out)).2.1; have s2 : w2.cell? ⟨b0, 2, none⟩ = _ := (st_cells (BS.out.later H2.out)).2.2.1; have s3 : w2.cell? ⟨b0, 3, none⟩ = _ := (st_cells (BS.out.later H2.out)).2.2.2)
      | (go_at_call 34; refine (CV.out _).mono ?_; rintro e1 w1 ⟨rfl, hb1⟩; have H1 := Lib.hid (H0.out.trans (hb1.mono H0.out.size)); clear hb1 s0 s1 s2 s3; have s0 : w1.cell? ⟨b0, 0, none⟩ = _ := (st_cells (BS.out.later H1.out)).1; have s1 : w1.cell? ⟨b0, 1, none⟩ = _ := (st_cells (BS.out.later H1.out)).2.1; have s2 : w1.cell? ⟨b0, 2, none⟩ = _ := (st_cells (BS.out.later H1.out)).2.2.1; have s3 : w1.cell? ⟨b0, 3, none⟩ = _ := (st_cells (BS.out.later H1.out)).2.2.2))
    go_ret
    exact ⟨by rw [HQ.out]; rfl, HB.out.trans (H1.out.mono HB.out.size)⟩
set_option maxHeartbeats 1000000 in
theorem pleft_any (s : St) (A : Option Addr) (p : Nat) (k : Int) (w : World) (HR : Right s) (hk : 0 ≤ k ∧ k ≤ 30) :
    Calls Try.prog 14 #[.agg (sc s A p), .int .i64 k] w fun e w' => e = .returned (.int .i64 (left s k)) ∧ Below w.heap.size w w' := by
  obtain ⟨b0, hb0⟩ : ∃ b0, w.heap.size = b0 := ⟨_, rfl⟩
  obtain ⟨W, hW⟩ : ∃ W, w.alloc (.cells (sc s A p) 25) = W := ⟨_, rfl⟩
  have HB := Lib.hid (show Below w.heap.size w W by rw [← hW]; exact below1 _ _)
  have BS : Hid (Sp.Blk W b0 25 (sc s A p)) := Lib.hid (by rw [← hW, ← hb0]; exact Sp.Blk.new _ _ _)
  have H0 : Hid (Below W.heap.size W W) := Lib.hid (Below.refl _ _)
  have s0 : W.cell? ⟨b0, 0, none⟩ = _ := (st_cells (BS.out.later H0.out)).1; have s1 : W.cell? ⟨b0, 1, none⟩ = _ := (st_cells (BS.out.later H0.out)).2.1; have s2 : W.cell? ⟨b0, 2, none⟩ = _ := (st_cells (BS.out.later H0.out)).2.2.1; have s3 : W.cell? ⟨b0, 3, none⟩ = _ := (st_cells (BS.out.later H0.out)).2.2.2
  have CV := Lib.hid (fun X => hv_any s A p X HR)
  have hv := HR.v
  unfold VicOk at hv
  have hlen := right_len HR
  have m1 : 0 ≤ (s.t.length : Int) * (k + 2) := Int.mul_nonneg (by omega) (by omega)
  have m2 : (s.t.length : Int) * (k + 2) ≤ 16 * (k + 2) := Int.mul_le_mul_of_nonneg_right (by omega) (by omega)
  have w1' : IntKind.i64.wrap (k + 2) = k + 2 := IntWalk.i64_in _ (by omega)
  have w2' : IntKind.i64.wrap ((s.t.length : Int) * (k + 2)) = (s.t.length : Int) * (k + 2) := IntWalk.i64_in _ (by omega)
  obtain ⟨m, hm⟩ : ∃ m, (s.t.length : Int) * (k + 2) = m := ⟨_, rfl⟩
  rw [hm] at m1 m2 w2'
  go_enter Try.func14, Try.ntmps14
  go_upto_region 1 with fail
  clear hW hb0
  go_upto_region 2 with fail
  by_cases k1 : 0 ≤ s.v
  · rw [decide_eq_true k1] at CV
    have w3 : IntKind.i64.wrap (s.n - s.c) = s.n - s.c := IntWalk.i64_in _ (by omega)
    have w4 : IntKind.i64.wrap (s.n - s.c + 1) = s.n - s.c + 1 := IntWalk.i64_in _ (by omega)
    have w5 : IntKind.i64.wrap (m + (s.n - s.c + 1)) = m + (s.n - s.c + 1) := IntWalk.i64_in _ (by omega)
    have HQ : Hid (left s k = m + (s.n - s.c + 1)) := Lib.hid (by unfold left; rw [hm, if_pos k1])
    clear k1 hm m1 m2 hv hlen hk HR w1' w2'
    go_wp2_with (first
      | (go_at_call 34; refine (CV.out _).mono ?_; rintro e2 w2 ⟨rfl, hb2⟩; have H2 := Lib.hid (H1.out.trans (hb2.mono H1.out.size)); clear hb2 s0 s1 s2 s3; have s0 : w2.cell? ⟨b0, 0, none⟩ = _ := (st_cells (BS.out.later H2.out)).1; have s1 : w2.cell? ⟨b0, 1, none⟩ = _ := (st_cells (BS.out.later H2.out)).2.1; have s2 : w2.cell? ⟨b0, 2, none⟩ = _ := (st_cells (BS.out.later H2.out)).2.2.1; have s3 : w2.cell? ⟨b0, 3, none⟩ = _ := (st_cells (BS.out.later H2.out)).2.2.2)
      | (go_at_call 34; refine (CV.out _).mono ?_; rintro e1 w1 ⟨rfl, hb1⟩; have H1 := Lib.hid (H0.out.trans (hb1.mono H0.out.size)); clear hb1 s0 s1 s2 s3; have s0 : w1.cell? ⟨b0, 0, none⟩ = _ := (st_cells (BS.out.later H1.out)).1; have s1 : w1.cell? ⟨b0, 1, none⟩ = _ := (st_cells (BS.out.later H1.out)).2.1; have s2 : w1.cell? ⟨b0, 2, none⟩ = _ := (st_cells (BS.out.later H1.out)).2.2.1; have s3 : w1.cell? ⟨b0, 3, none⟩ = _ := (st_cells (BS.out.later H1.out)).2.2.2))
    go_ret
    exact ⟨by rw [HQ.out]; rfl, HB.out.trans (H1.out.mono HB.out.size)⟩
  · rw [decide_eq_false k1] at CV
    have HQ : Hid (left s k = m) := Lib.hid (by unfold left; rw [hm, if_neg k1, Int.add_zero])
    clear k1 hm m1 m2 hv hlen hk HR w1' w2'
    go_wp2_with (first
      | (go_at_call 34; refine (CV.out _).mono ?_; rintro e2 w2 ⟨rfl, hb2⟩; have H2 := Lib.hid (H1.out.trans (hb2.mono H1.out.size)); clear hb2 s0 s1 s2 s3; have s0 : w2.cell? ⟨b0, 0, none⟩ = _ := (st_cells (BS.out.later H2.out)).1; have s1 : w2.cell? ⟨b0, 1, none⟩ = _ := (st_cells (BS.out.later H2.out)).2.1; have s2 : w2.cell? ⟨b0, 2, none⟩ = _ := (st_cells (BS.out.later H2.out)).2.2.1; have s3 : w2.cell? ⟨b0, 3, none⟩ = _ := (st_cells (BS.out.later H2.out)).2.2.2)
      | (go_at_call 34; refine (CV.out _).mono ?_; rintro e1 w1 ⟨rfl, hb1⟩; have H1 := Lib.hid (H0.out.trans (hb1.mono H0.out.size)); clear hb1 s0 s1 s2 s3; have s0 : w1.cell? ⟨b0, 0, none⟩ = _ := (st_cells (BS.out.later H1.out)).1; have s1 : w1.cell? ⟨b0, 1, none⟩ = _ := (st_cells (BS.out.later H1.out)).2.1; have s2 : w1.cell? ⟨b0, 2, none⟩ = _ := (st_cells (BS.out.later H1.out)).2.2.1; have s3 : w1.cell? ⟨b0, 3, none⟩ = _ := (st_cells (BS.out.later H1.out)).2.2.2))
    go_ret
    exact ⟨by rw [HQ.out]; rfl, HB.out.trans (H1.out.mono HB.out.size)⟩
set_option maxHeartbeats 1000000 in
theorem pvic_any (s : St) (A : Option Addr) (p : Nat) (w : World) :
    Calls Try.prog 33 #[.agg (sc s A p)] w fun e w' => e = .returned (.bool (decide (VicOk s.v s.c s.n))) ∧ Below w.heap.size w w' := by
  obtain ⟨b0, hb0⟩ : ∃ b0, w.heap.size = b0 := ⟨_, rfl⟩
  obtain ⟨W, hW⟩ : ∃ W, w.alloc (.cells (sc s A p) 25) = W := ⟨_, rfl⟩
  have HB := Lib.hid (show Below w.heap.size w W by rw [← hW]; exact below1 _ _)
  have BS : Hid (Sp.Blk W b0 25 (sc s A p)) := Lib.hid (by rw [← hW, ← hb0]; exact Sp.Blk.new _ _ _)
  have H0 : Hid (Below W.heap.size W W) := Lib.hid (Below.refl _ _)
  have s0 : W.cell? ⟨b0, 0, none⟩ = _ := (st_cells (BS.out.later H0.out)).1; have s1 : W.cell? ⟨b0, 1, none⟩ = _ := (st_cells (BS.out.later H0.out)).2.1; have s2 : W.cell? ⟨b0, 2, none⟩ = _ := (st_cells (BS.out.later H0.out)).2.2.1; have s3 : W.cell? ⟨b0, 3, none⟩ = _ := (st_cells (BS.out.later H0.out)).2.2.2
  have CS := Lib.hid (fun X => seg_any s.v X)
  have CL := Lib.hid (fun X => len_any s.n X)
  go_enter Try.func33, Try.ntmps33
  go_upto_region 1 with fail
  clear hW hb0
  by_cases hv : s.v = -1
  · rw [hv] at s1
    have dv : ((-1 : Int) == -1) = true := by decide
    by_cases e0 : s.c = 0
    case neg =>
      have f0 : (s.c == 0) = false := by simp; omega
      go_wp2_with fail
      go_ret
      exact ⟨ret_bool (Eq.symm (decide_eq_false (by unfold VicOk; omega))), HB.out⟩
    have f0 : (s.c == 0) = true := by simp; omega
    by_cases e1 : s.n = 0
    case neg =>
      have f1 : (s.n == 0) = false := by simp; omega
      go_wp2_with fail
      go_ret
      exact ⟨ret_bool (Eq.symm (decide_eq_false (by unfold VicOk; omega))), HB.out⟩
    have f1 : (s.n == 0) = true := by simp; omega
    go_wp2_with fail
    go_ret
    exact ⟨ret_bool (Eq.symm (decide_eq_true (by unfold VicOk; omega))), HB.out⟩
  · have dv : (s.v == -1) = false := by simp; exact hv
    by_cases e0 : 0 ≤ s.v ∧ s.v ≤ 15
    case neg =>
      rw [decide_eq_false e0] at CS
      go_wp2_with (first
        | (go_at_call 40; refine (CS.out _).mono ?_; rintro e1 w1 ⟨rfl, rfl⟩)
        | (go_at_call 38; refine (CL.out _).mono ?_; rintro e2 w2 ⟨rfl, rfl⟩))
      go_ret
      exact ⟨ret_bool (Eq.symm (decide_eq_false (by unfold VicOk; omega))), HB.out⟩
    rw [decide_eq_true e0] at CS
    by_cases e1 : 0 ≤ s.n ∧ s.n ≤ 30
    case neg =>
      rw [decide_eq_false e1] at CL
      go_wp2_with (first
        | (go_at_call 40; refine (CS.out _).mono ?_; rintro e1 w1 ⟨rfl, rfl⟩)
        | (go_at_call 38; refine (CL.out _).mono ?_; rintro e2 w2 ⟨rfl, rfl⟩))
      go_ret
      exact ⟨ret_bool (Eq.symm (decide_eq_false (by unfold VicOk; omega))), HB.out⟩
    rw [decide_eq_true e1] at CL
    by_cases e2 : 0 ≤ s.c
    case neg =>
      have f2 : decide (0 ≤ s.c) = false := by simp; omega
      go_wp2_with (first
        | (go_at_call 40; refine (CS.out _).mono ?_; rintro e1 w1 ⟨rfl, rfl⟩)
        | (go_at_call 38; refine (CL.out _).mono ?_; rintro e2 w2 ⟨rfl, rfl⟩))
      go_ret
      exact ⟨ret_bool (Eq.symm (decide_eq_false (by unfold VicOk; omega))), HB.out⟩
    have f2 : decide (0 ≤ s.c) = true := by simp; omega
    by_cases e3 : s.c ≤ s.n
    case neg =>
      have f3 : decide (s.c ≤ s.n) = false := by simp; omega
      go_wp2_with (first
        | (go_at_call 40; refine (CS.out _).mono ?_; rintro e1 w1 ⟨rfl, rfl⟩)
        | (go_at_call 38; refine (CL.out _).mono ?_; rintro e2 w2 ⟨rfl, rfl⟩))
      go_ret
      exact ⟨ret_bool (Eq.symm (decide_eq_false (by unfold VicOk; omega))), HB.out⟩
    have f3 : decide (s.c ≤ s.n) = true := by simp; omega
    go_wp2_with (first
      | (go_at_call 40; refine (CS.out _).mono ?_; rintro e1 w1 ⟨rfl, rfl⟩)
      | (go_at_call 38; refine (CL.out _).mono ?_; rintro e2 w2 ⟨rfl, rfl⟩))
    go_ret
    exact ⟨ret_bool (Eq.symm (decide_eq_true (by unfold VicOk; omega))), HB.out⟩
set_option maxHeartbeats 2000000 in
theorem ptodo_any (s : St) (A : Option Addr) (p : Nat) (w : World) (hA : VR w A s.t.length (iv s.t)) (hn : s.t.length ≤ 1000) :
    Calls Try.prog 32 #[.agg (sc s A p)] w fun e w' => e = .returned (.bool (decide (TodoOk s.t s.v))) ∧ Below w.heap.size w w' := by
  obtain ⟨b0, hb0⟩ : ∃ b0, w.heap.size = b0 := ⟨_, rfl⟩
  obtain ⟨W, hW⟩ : ∃ W, w.alloc (.cells (sc s A p) 25) = W := ⟨_, rfl⟩
  have HB := Lib.hid (show Below w.heap.size w W by rw [← hW]; exact below1 _ _)
  have BS : Hid (Sp.Blk W b0 25 (sc s A p)) := Lib.hid (by rw [← hW, ← hb0]; exact Sp.Blk.new _ _ _)
  have H0 : Hid (Below W.heap.size W W) := Lib.hid (Below.refl _ _)
  have s0 : W.cell? ⟨b0, 0, none⟩ = _ := (st_cells (BS.out.later H0.out)).1; have s1 : W.cell? ⟨b0, 1, none⟩ = _ := (st_cells (BS.out.later H0.out)).2.1; have s2 : W.cell? ⟨b0, 2, none⟩ = _ := (st_cells (BS.out.later H0.out)).2.2.1; have s3 : W.cell? ⟨b0, 3, none⟩ = _ := (st_cells (BS.out.later H0.out)).2.2.2
  obtain ⟨W2, hW2⟩ : ∃ W2, W.alloc (.cells #[.bool false, .bool false, .bool false, .bool false, .bool false, .bool false, .bool false, .bool false, .bool false, .bool false, .bool false, .bool false, .bool false, .bool false, .bool false, .bool false] 65) = W2 := ⟨_, rfl⟩
  have H2 := Lib.hid (show Below W.heap.size W W2 by rw [← hW2]; exact below1 _ _)
  obtain ⟨sb, hsb⟩ : ∃ sb, W.heap.size = sb := ⟨_, rfl⟩
  have HSB := Lib.hid hsb
  have SB0 : Hid (∀ j, j < 16 → W2.cell? ⟨sb, j, none⟩ = some (.bool false) ∧ W2.frozen? ⟨sb, j, none⟩ = false) := Lib.hid (fun j hj => by
    have hb : Sp.Blk W2 sb 65 #[.bool false, .bool false, .bool false, .bool false, .bool false, .bool false, .bool false, .bool false, .bool false, .bool false, .bool false, .bool false, .bool false, .bool false, .bool false, .bool false] := by rw [← hW2, ← hsb]; exact Sp.Blk.new _ _ _
    refine ⟨?_, hb.frozen j⟩
    rw [hb.cell]
    rcases (by omega : j = 0 ∨ j = 1 ∨ j = 2 ∨ j = 3 ∨ j = 4 ∨ j = 5 ∨ j = 6 ∨ j = 7 ∨ j = 8 ∨ j = 9 ∨ j = 10 ∨ j = 11 ∨ j = 12 ∨ j = 13 ∨ j = 14 ∨ j = 15) with rfl | rfl | rfl | rfl | rfl | rfl | rfl | rfl | rfl | rfl | rfl | rfl | rfl | rfl | rfl | rfl <;> rfl)
  have HV := Lib.hid (hA.later HB.out)
  obtain ⟨t, v, c, n⟩ := s
  simp only at HV hn
  obtain ⟨m, hm⟩ : ∃ m, t.length = m := ⟨_, rfl⟩
  have HM := Lib.hid hm
  have HN := Lib.hid hn
  rw [hm] at HV HN
  have BS2 : Hid (Sp.Blk W b0 25 #[.slice A m p, .int .i64 v, .int .i64 c, .int .i64 n]) := Lib.hid (by rw [← hm]; exact BS.out)
  have c0 : W2.cell? ⟨b0, 0, none⟩ = some (.slice A m p) := (BS2.out.later H2.out).cell 0
  clear BS hA hn s0 s1 s2 s3 hm
  go_enter Try.func32, Try.ntmps32
  go_upto_region 3 with fail
  clear hW hb0 hW2 hsb
  go_loopg [9] m (fun gk s9 wr => ∃ i : Nat, i ≤ m ∧ gk = m - i ∧ s9 = .int .i64 (i : Nat) ∧ Hid (Below W.heap.size W wr) ∧ Hid (TodoOk (t.take i) v) ∧ Hid (∀ j : Nat, j < 16 → wr.cell? ⟨sb, j, none⟩ = some (.bool (decide ((j : Int) ∈ t.take i))) ∧ wr.frozen? ⟨sb, j, none⟩ = false))
  case atStart => exact ⟨0, by omega, rfl, rfl, H2, Lib.hid (by rw [List.take_zero]; exact todo_nil v), by simpa using SB0⟩
  case round =>
    obtain ⟨i, hi, hgk, rfl, HW, HT, SB⟩ := hrel
    have HG := Lib.hid hgk
    clear hgk SB0 c0
    have HWW := Lib.hid (HB.out.trans (HW.out.mono HB.out.size))
    by_cases hlt : i < m
    · have hl1 : (i : Int) < (m : Int) := by omega
      have wi : IntKind.i64.wrap ((i : Int) + 1) = (i : Int) + 1 := IntWalk.i64_in _ (by have := HN.out; omega)
      obtain ⟨g, o, rfl, hc⟩ := (HV.out.later HW.out).c (by omega)
      obtain ⟨y, hy⟩ : ∃ y, t[i]? = some y := ⟨_, List.getElem?_eq_getElem (by have := HM.out; omega)⟩
      have c1 := hc i _ (iv_at hy)
      have HY := Lib.hid hy
      have CS := Lib.hid (fun X => seg_any y X)
      have s1 : wr.cell? ⟨b0, 1, none⟩ = some (.int .i64 v) := (BS2.out.later HW.out).cell 1
      clear hc hy
      by_cases k1 : 0 ≤ y ∧ y ≤ 15
      case neg =>
        rw [decide_eq_false k1] at CS
        have HK := Lib.hid k1
        clear k1
        go_wp2_with (go_at_call 40; refine (CS.out _).mono ?_; rintro e1 w1 ⟨rfl, rfl⟩)
        go_ret
        exact ⟨ret_bool (Eq.symm (decide_eq_false fun h => HK.out ⟨(todo_at h HY.out).2.1.1, (todo_at h HY.out).2.1.2.1⟩)), HWW.out⟩
      rw [decide_eq_true k1] at CS
      obtain ⟨j, rfl⟩ : ∃ j : Nat, y = (j : Int) := ⟨y.toNat, by omega⟩
      have hj : j < 16 := by omega
      have hj2 : (j : Int) < 16 := by omega
      have hj3 : (0 : Int) ≤ (j : Int) := by omega
      have q1 := (SB.out j hj).1
      have q2 := (SB.out j hj).2
      by_cases k2 : (j : Int) ∈ t.take i
      · rw [decide_eq_true k2] at q1
        have HK := Lib.hid k2
        clear k1 k2
        go_wp2_with (go_at_call 40; refine (CS.out _).mono ?_; rintro e1 w1 ⟨rfl, rfl⟩)
        go_ret
        exact ⟨ret_bool (Eq.symm (decide_eq_false fun h => (todo_at h HY.out).2.2 HK.out)), HWW.out⟩
      rw [decide_eq_false k2] at q1
      by_cases k3 : (j : Int) = v
      · have d3 : ((j : Int) == v) = true := by simp; exact k3
        have HK := Lib.hid k3
        clear k1 k2 k3
        go_wp2_with (go_at_call 40; refine (CS.out _).mono ?_; rintro e1 w1 ⟨rfl, rfl⟩)
        go_ret
        exact ⟨ret_bool (Eq.symm (decide_eq_false fun h => (todo_at h HY.out).2.1.2.2 HK.out)), HWW.out⟩
      have d3 : ((j : Int) == v) = false := by simp; exact k3
      have HT2 : Hid (TodoOk (t.take (i + 1)) v) := Lib.hid (by rw [take_one HY.out]; exact todo_snoc.2 ⟨HT.out, ⟨k1.1, k1.2, k3⟩, k2⟩)
      have SB2 : Hid (∀ l : Nat, l < 16 → (wr.setCell ⟨sb, j, none⟩ (.bool true)).cell? ⟨sb, l, none⟩ = some (.bool (decide ((l : Int) ∈ t.take (i + 1)))) ∧ (wr.setCell ⟨sb, j, none⟩ (.bool true)).frozen? ⟨sb, l, none⟩ = false) := Lib.hid (fun l hl => by
        refine ⟨?_, by rw [World.frozen?_setCell]; exact (SB.out l hl).2⟩
        rw [take_one HY.out]
        by_cases e : l = j
        · subst e
          rw [World.cell?_setCell_same _ _ _ q1, decide_eq_true (List.mem_append_right _ (List.mem_singleton.2 rfl))]
        · rw [World.cell?_setCell_other wr ⟨sb, j, none⟩ ⟨sb, l, none⟩ (.bool true) (by intro h; cases h; exact e rfl), (SB.out l hl).1]
          have : ((l : Int) ∈ t.take i ++ [(j : Int)]) ↔ (l : Int) ∈ t.take i := by
            rw [List.mem_append, List.mem_singleton]
            constructor
            · rintro (h | h)
              · exact h
              · omega
            · exact .inl
          simp only [this])
      have HW2 : Hid (Below W.heap.size W (wr.setCell ⟨sb, j, none⟩ (.bool true))) := Lib.hid (HW.out.setCell (by show W.heap.size ≤ sb; have := HSB.out; omega) _)
      clear k1 k2 k3
      go_wp2_with (go_at_call 40; refine (CS.out _).mono ?_; rintro e1 w1 ⟨rfl, rfl⟩)
      go_roundg (m - (i + 1))
      case measure => have := HG.out; omega
      case rel => exact ⟨i + 1, by omega, by have := HG.out; omega, by go_num, HW2, HT2, SB2⟩
    · obtain rfl : i = m := by omega
      have hl1 : ¬ (i : Int) < (i : Int) := by omega
      have hd : decide (TodoOk t v) = true := decide_eq_true (by have := HT.out; rwa [List.take_of_length_le (by have := HM.out; omega)] at this)
      have HD := Lib.hid hd
      clear hd
      go_wp2_with fail
      go_ret
      exact ⟨ret_bool HD.out.symm, HWW.out⟩
set_option maxHeartbeats 1000000 in
theorem pright_any (s : St) (A : Option Addr) (p : Nat) (w : World) (hA : VR w A s.t.length (iv s.t)) (hn : s.t.length ≤ 1000) :
    Calls Try.prog 11 #[.agg (sc s A p)] w fun e w' => e = .returned (.bool (decide (Right s))) ∧ Below w.heap.size w w' := by
  obtain ⟨b0, hb0⟩ : ∃ b0, w.heap.size = b0 := ⟨_, rfl⟩
  obtain ⟨W, hW⟩ : ∃ W, w.alloc (.cells (sc s A p) 25) = W := ⟨_, rfl⟩
  have HB := Lib.hid (show Below w.heap.size w W by rw [← hW]; exact below1 _ _)
  have BS : Hid (Sp.Blk W b0 25 (sc s A p)) := Lib.hid (by rw [← hW, ← hb0]; exact Sp.Blk.new _ _ _)
  have H0 : Hid (Below W.heap.size W W) := Lib.hid (Below.refl _ _)
  have s0 : W.cell? ⟨b0, 0, none⟩ = _ := (st_cells (BS.out.later H0.out)).1; have s1 : W.cell? ⟨b0, 1, none⟩ = _ := (st_cells (BS.out.later H0.out)).2.1; have s2 : W.cell? ⟨b0, 2, none⟩ = _ := (st_cells (BS.out.later H0.out)).2.2.1; have s3 : W.cell? ⟨b0, 3, none⟩ = _ := (st_cells (BS.out.later H0.out)).2.2.2
  have CT := Lib.hid (fun X (hX : Below W.heap.size W X) => ptodo_any s A p X ((hA.later HB.out).later hX) hn)
  have CV := Lib.hid (fun X => pvic_any s A p X)
  go_enter Try.func11, Try.ntmps11
  go_upto_region 1 with fail
  clear hW hb0
  by_cases k1 : TodoOk s.t s.v
  · rw [decide_eq_true k1] at CT
    have HQ : Hid (decide (Right s) = decide (VicOk s.v s.c s.n)) := Lib.hid (by simp only [right_iff, k1, true_and])
    clear k1
    go_wp2_with (first
      | (go_at_call 32; refine (CT.out _ (Below.refl _ _)).mono ?_; rintro e1 w1 ⟨rfl, hb1⟩; have H1 := Lib.hid (H0.out.trans (hb1.mono H0.out.size)); clear hb1 s0 s1 s2 s3; have s0 : w1.cell? ⟨b0, 0, none⟩ = _ := (st_cells (BS.out.later H1.out)).1; have s1 : w1.cell? ⟨b0, 1, none⟩ = _ := (st_cells (BS.out.later H1.out)).2.1; have s2 : w1.cell? ⟨b0, 2, none⟩ = _ := (st_cells (BS.out.later H1.out)).2.2.1; have s3 : w1.cell? ⟨b0, 3, none⟩ = _ := (st_cells (BS.out.later H1.out)).2.2.2)
      | (go_at_call 33; refine (CV.out _).mono ?_; rintro e2 w2 ⟨rfl, hb2⟩; have H2 := Lib.hid (H1.out.trans (hb2.mono H1.out.size)); clear hb2 s0 s1 s2 s3; have s0 : w2.cell? ⟨b0, 0, none⟩ = _ := (st_cells (BS.out.later H2.out)).1; have s1 : w2.cell? ⟨b0, 1, none⟩ = _ := (st_cells (BS.out.later H2.out)).2.1; have s2 : w2.cell? ⟨b0, 2, none⟩ = _ := (st_cells (BS.out.later H2.out)).2.2.1; have s3 : w2.cell? ⟨b0, 3, none⟩ = _ := (st_cells (BS.out.later H2.out)).2.2.2))
    go_ret
    exact ⟨ret_bool HQ.out.symm, HB.out.trans (H2.out.mono HB.out.size)⟩
  · rw [decide_eq_false k1] at CT
    have HQ : Hid (decide (Right s) = false) := Lib.hid (decide_eq_false fun h => k1 h.t)
    clear k1
    go_wp2_with (go_at_call 32; refine (CT.out _ (Below.refl _ _)).mono ?_; rintro e1 w1 ⟨rfl, hb1⟩; have H1 := Lib.hid (H0.out.trans (hb1.mono H0.out.size)); clear hb1 s0 s1 s2 s3; have s0 : w1.cell? ⟨b0, 0, none⟩ = _ := (st_cells (BS.out.later H1.out)).1; have s1 : w1.cell? ⟨b0, 1, none⟩ = _ := (st_cells (BS.out.later H1.out)).2.1; have s2 : w1.cell? ⟨b0, 2, none⟩ = _ := (st_cells (BS.out.later H1.out)).2.2.1; have s3 : w1.cell? ⟨b0, 3, none⟩ = _ := (st_cells (BS.out.later H1.out)).2.2.2)
    go_ret
    exact ⟨ret_bool HQ.out.symm, HB.out.trans (H1.out.mono HB.out.size)⟩
end Go.Proofs.Ytfhdckmpodmejaa.Sw
