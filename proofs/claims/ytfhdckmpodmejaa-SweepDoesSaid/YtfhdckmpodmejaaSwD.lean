/- The document's Same and Take. -/
import Derived.Test.YtfhdckmpodmejaaSwC
namespace Go.Proofs.Ytfhdckmpodmejaa.Sw
open Go.ChangeShapes Go.WideShapes Go.ChangeAt Go.RowKit Go.Lib Go.Joins Go.Deep
open Sp Rw
set_option linter.unusedVariables false
set_option maxRecDepth 100000

set_option maxHeartbeats 2000000 in
theorem rsame_any (a b : St) (A : Option Addr) (p : Nat) (B : Option Addr) (q : Nat) (w : World) (hA : VR w A a.t.length (iv a.t)) (hB : VR w B b.t.length (iv b.t)) (hm : a.t.length ≤ 1000) (R : Bool) (hR : R = decide (a = b)) :
    Calls Try.prog 26 #[.agg (sc a A p), .agg (sc b B q)] w fun e w' => e = .returned (.bool R) ∧ Below w.heap.size w w' := by
  have HR := Lib.hid hR
  clear hR
  obtain ⟨b0, hb0⟩ : ∃ b0, w.heap.size = b0 := ⟨_, rfl⟩
  obtain ⟨W, hW⟩ : ∃ W, (w.alloc (.cells (sc a A p) 27)).alloc (.cells (sc b B q) 27) = W := ⟨_, rfl⟩
  have HB := Lib.hid (show Below w.heap.size w W by rw [← hW]; exact (below1 _ _).alloc (by simp) _)
  have BA : Hid (Sp.Blk W b0 27 (sc a A p)) := Lib.hid (by rw [← hW, ← hb0]; exact (Sp.Blk.new _ _ _).later (below1 _ _))
  have BB : Hid (Sp.Blk W (b0 + 1) 27 (sc b B q)) := Lib.hid (by rw [← hW, ← hb0]; exact Sp.Blk.at_ _ _ _ (by simp))
  have VA := Lib.hid (hA.later HB.out)
  have VB := Lib.hid (hB.later HB.out)
  have HM := Lib.hid hm
  clear hA hB hm
  obtain ⟨t, v, c, n⟩ := a
  obtain ⟨t', v', c', n'⟩ := b
  simp only at VA VB HM
  obtain ⟨m, hm⟩ : ∃ m, t.length = m := ⟨_, rfl⟩
  obtain ⟨k, hk⟩ : ∃ k, t'.length = k := ⟨_, rfl⟩
  have H1 := Lib.hid hm
  have H2 := Lib.hid hk
  rw [hm] at VA HM
  rw [hk] at VB
  have s0 : W.cell? ⟨b0, 0, none⟩ = some (.slice A m p) := by rw [← hm]; exact BA.out.cell 0
  have s1 : W.cell? ⟨b0, 1, none⟩ = some (.int .i64 v) := BA.out.cell 1
  have s2 : W.cell? ⟨b0, 2, none⟩ = some (.int .i64 c) := BA.out.cell 2
  have s3 : W.cell? ⟨b0, 3, none⟩ = some (.int .i64 n) := BA.out.cell 3
  have u0 : W.cell? ⟨b0 + 1, 0, none⟩ = some (.slice B k q) := by rw [← hk]; exact BB.out.cell 0
  have u1 : W.cell? ⟨b0 + 1, 1, none⟩ = some (.int .i64 v') := BB.out.cell 1
  have u2 : W.cell? ⟨b0 + 1, 2, none⟩ = some (.int .i64 c') := BB.out.cell 2
  have u3 : W.cell? ⟨b0 + 1, 3, none⟩ = some (.int .i64 n') := BB.out.cell 3
  have S0 := Lib.hid s0
  have U0 := Lib.hid u0
  clear hm hk BA BB
  go_enter Try.func26, Try.ntmps26
  go_upto_region 1 with fail
  clear hW hb0
  by_cases g0 : k = m
  case neg =>
    have f0 : ((m : Int) != (k : Int)) = true := by simp; omega
    have HD := Lib.hid g0
    clear g0
    go_wp2_with fail
    go_ret
    exact ⟨ret_bool (HR.out.trans (decide_eq_false (by intro e; injection e with e1 e2 e3 e4; exact HD.out (by rw [← H1.out, ← H2.out, e1])))).symm, HB.out⟩
  subst g0
  have f0 : ((k : Int) != (k : Int)) = false := by simp
  by_cases g1 : v = v'
  case neg =>
    have f1 : (v != v') = true := by simp; omega
    have HD := Lib.hid g1
    clear g1
    go_wp2_with fail
    go_ret
    exact ⟨ret_bool (HR.out.trans (decide_eq_false (by intro e; injection e with e1 e2 e3 e4; exact HD.out e2))).symm, HB.out⟩
  subst g1
  have f1 : (v != v) = false := by simp
  by_cases g2 : c = c'
  case neg =>
    have f2 : (c != c') = true := by simp; omega
    have HD := Lib.hid g2
    clear g2
    go_wp2_with fail
    go_ret
    exact ⟨ret_bool (HR.out.trans (decide_eq_false (by intro e; injection e with e1 e2 e3 e4; exact HD.out e3))).symm, HB.out⟩
  subst g2
  have f2 : (c != c) = false := by simp
  by_cases g3 : n = n'
  case neg =>
    have f3 : (n != n') = true := by simp; omega
    have HD := Lib.hid g3
    clear g3
    go_wp2_with fail
    go_ret
    exact ⟨ret_bool (HR.out.trans (decide_eq_false (by intro e; injection e with e1 e2 e3 e4; exact HD.out e4))).symm, HB.out⟩
  subst g3
  have f3 : (n != n) = false := by simp
  go_upto_region 3 with fail
  clear s1 s2 s3 u1 u2 u3 s0 u0
  have HR2 : Hid (R = decide (t = t')) := Lib.hid (by
    rw [HR.out]
    by_cases h : t = t'
    · subst h; simp
    · rw [decide_eq_false h, decide_eq_false (by intro e; injection e with e1; exact h e1)])
  clear HR
  go_upto_region 4 with fail
  go_loopg [5] k (fun gk s5 wr => ∃ i : Nat, i ≤ k ∧ gk = k - i ∧ s5 = .int .i64 (i : Nat) ∧ Hid (Below W.heap.size W wr) ∧ Hid (t.take i = t'.take i))
  case atStart => exact ⟨0, by omega, rfl, rfl, Lib.hid (Below.refl _ _), Lib.hid (by simp)⟩
  case round =>
    obtain ⟨i, hi, hgk, rfl, HW, HT⟩ := hrel
    have HG := Lib.hid hgk
    clear hgk
    have s0 := (HW.out.cell (World.block_lt_of_cell? _ _ S0.out)).trans S0.out
    have u0 := (HW.out.cell (World.block_lt_of_cell? _ _ U0.out)).trans U0.out
    have HWW := Lib.hid (HB.out.trans (HW.out.mono HB.out.size))
    by_cases hlt : i < k
    · have hl1 : (i : Int) < (k : Int) := by omega
      have wi : IntKind.i64.wrap ((i : Int) + 1) = (i : Int) + 1 := IntWalk.i64_in _ (by have := HM.out; omega)
      obtain ⟨g1, o1, rfl, c1⟩ := (VA.out.later HW.out).c (by omega)
      obtain ⟨g2, o2, rfl, c2⟩ := (VB.out.later HW.out).c (by omega)
      obtain ⟨x, hx⟩ : ∃ x, t[i]? = some x := ⟨_, List.getElem?_eq_getElem (by have := H1.out; omega)⟩
      obtain ⟨y, hy⟩ : ∃ y, t'[i]? = some y := ⟨_, List.getElem?_eq_getElem (by have := H2.out; omega)⟩
      have x1 := c1 i _ (iv_at hx)
      have y1 := c2 i _ (iv_at hy)
      have X := Lib.hid hx
      have Y := Lib.hid hy
      have HB2 := Lib.hid (fun nq => below_drewN HW.out nq)
      clear c1 c2 hx hy
      by_cases hxy : x = y
      · subst hxy
        have HT2 : Hid (t.take (i + 1) = t'.take (i + 1)) := Lib.hid (by rw [take_one X.out, take_one Y.out, HT.out])
        go_upto_region 6 with fail
        go_quiet (fail)
        go_wp2_with fail
        go_roundg (k - (i + 1))
        case measure => have := HG.out; omega
        case rel => exact ⟨i + 1, by omega, by have := HG.out; omega, by go_num, Lib.hid (HB2.out _), HT2⟩
      · have hne : (x != y) = true := by simp; exact hxy
        have hd : decide (t = t') = false := decide_eq_false (fun e => hxy (by have := X.out; rw [e, Y.out] at this; injection this with this; exact this.symm))
        have HD := Lib.hid hd
        clear hd
        go_upto_region 6 with fail
        go_quiet (fail)
        go_wp2_with fail
        go_ret
        exact ⟨ret_bool (HR2.out.trans HD.out).symm, HB.out.trans ((HB2.out _).mono HB.out.size)⟩
    · obtain rfl : i = k := by omega
      have hl1 : ¬ (i : Int) < (i : Int) := by omega
      have hd : decide (t = t') = true := by
        rw [decide_eq_true_iff]
        have := HT.out
        rw [List.take_of_length_le (by have := H1.out; omega), List.take_of_length_le (by have := H2.out; omega)] at this
        exact this
      have HD := Lib.hid hd
      clear hd
      go_wp2_with fail
      go_ret
      exact ⟨ret_bool (HR2.out.trans HD.out).symm, HWW.out⟩
set_option maxHeartbeats 1000000 in
theorem rtake_any (s : St) (A : Option Addr) (p : Nat) (x n : Int) (w : World) (hA : VR w A s.t.length (iv s.t)) (hn : s.t.length < 1000) :
    Calls Try.prog 30 #[.agg (sc s A p), .int .i64 x, .int .i64 n] w (Out w (takes s x n)) := by
  obtain ⟨b0, hb0⟩ : ∃ b0, w.heap.size = b0 := ⟨_, rfl⟩
  obtain ⟨W, hW⟩ : ∃ W, (w.alloc (.cells (sc s A p) 27)).alloc (.cells #[.slice none 0 0, .int .i64 0, .int .i64 0, .int .i64 0] 27) = W := ⟨_, rfl⟩
  have HB := Lib.hid (show Below w.heap.size w W by rw [← hW]; exact (below1 _ _).alloc (by simp) _)
  have BS : Hid (Sp.Blk W b0 27 (sc s A p)) := Lib.hid (by rw [← hW, ← hb0]; exact (Sp.Blk.new _ _ _).later (below1 _ _))
  have BR : Hid (Sp.Blk W (b0 + 1) 27 #[.slice none 0 0, .int .i64 0, .int .i64 0, .int .i64 0]) := Lib.hid (by rw [← hW, ← hb0]; exact Sp.Blk.at_ _ _ _ (by simp))
  have HV := Lib.hid (hA.later HB.out)
  have HZ := Lib.hid hb0
  have HN := Lib.hid hn
  have CI : Hid (∀ X, Below W.heap.size W X → Calls Try.prog 35 #[.slice A s.t.length p, .int .i64 x] X fun e w' => e = .returned (.bool (decide (x ∈ s.t))) ∧ Below X.heap.size X w') := Lib.hid (fun X hX => rin_any A _ p _ x X (HV.out.later hX) (by have := HN.out; omega))
  have c0 := (st_cells BS.out).1
  have c1 := (st_cells BS.out).2.1
  have r2 := BR.out
  go_enter Try.func30, Try.ntmps30
  go_upto_region 1 with fail
  clear hW hb0 hA hn
  by_cases k1 : 0 ≤ s.v
  · have d1 : decide (0 ≤ s.v) = true := decide_eq_true k1
    have HQ : Hid (takes s x n = none) := Lib.hid (by unfold takes; rw [if_pos (.inl k1)])
    clear k1
    go_wp2_with (with_reducible refine store_r rfl (.tmp 6) (.tmp 28) rfl (b0 + 1) rfl rfl r2 ?_)
    refine bodyPost_ret (res_r2 rfl _ _ _ rfl rfl (r2.row _)) rfl ?_
    exact ⟨none, 0, by rw [HQ.out]; rfl, by rw [HQ.out]; exact VR.nil _ _, below_row HB.out (by have := HZ.out; omega) _, fun a ha => by cases ha⟩
  have d1 : decide (0 ≤ s.v) = false := decide_eq_false k1
  by_cases k2 : x ∈ s.t
  case neg =>
    rw [decide_eq_false k2] at CI
    have HQ : Hid (takes s x n = none) := Lib.hid (by unfold takes; rw [if_pos (.inr (.inl k2))])
    clear k1 k2
    go_upto_region 2 with (go_at_call 35; refine (CI.out _ (Below.refl _ _)).mono ?_; rintro e1 w1 ⟨rfl, hb1⟩; have H1 := Lib.hid hb1; clear hb1)
    have b3 := BR.out.later H1.out
    go_wp2_with (with_reducible refine store_r rfl (.tmp 6) (.tmp 28) rfl (b0 + 1) rfl rfl b3 ?_)
    refine bodyPost_ret (res_r2 rfl _ _ _ rfl rfl (b3.row _)) rfl ?_
    exact ⟨none, 0, by rw [HQ.out]; rfl, by rw [HQ.out]; exact VR.nil _ _, below_row (HB.out.trans (H1.out.mono HB.out.size)) (by have := HZ.out; omega) _, fun a ha => by cases ha⟩
  rw [decide_eq_true k2] at CI
  by_cases k3 : n < 0
  · have d3 : decide (n < 0) = true := decide_eq_true k3
    have HQ : Hid (takes s x n = none) := Lib.hid (by unfold takes; rw [if_pos (.inr (.inr (.inl k3)))])
    clear k1 k2 k3
    go_upto_region 2 with (go_at_call 35; refine (CI.out _ (Below.refl _ _)).mono ?_; rintro e1 w1 ⟨rfl, hb1⟩; have H1 := Lib.hid hb1; clear hb1)
    have b3 := BR.out.later H1.out
    go_wp2_with (with_reducible refine store_r rfl (.tmp 6) (.tmp 28) rfl (b0 + 1) rfl rfl b3 ?_)
    refine bodyPost_ret (res_r2 rfl _ _ _ rfl rfl (b3.row _)) rfl ?_
    exact ⟨none, 0, by rw [HQ.out]; rfl, by rw [HQ.out]; exact VR.nil _ _, below_row (HB.out.trans (H1.out.mono HB.out.size)) (by have := HZ.out; omega) _, fun a ha => by cases ha⟩
  have d3 : decide (n < 0) = false := decide_eq_false k3
  by_cases k4 : 30 < n
  · have d4 : decide (30 < n) = true := decide_eq_true k4
    have HQ : Hid (takes s x n = none) := Lib.hid (by unfold takes; rw [if_pos (.inr (.inr (.inr k4)))])
    clear k1 k2 k3 k4
    go_upto_region 2 with (go_at_call 35; refine (CI.out _ (Below.refl _ _)).mono ?_; rintro e1 w1 ⟨rfl, hb1⟩; have H1 := Lib.hid hb1; clear hb1)
    have b3 := BR.out.later H1.out
    go_wp2_with (with_reducible refine store_r rfl (.tmp 6) (.tmp 28) rfl (b0 + 1) rfl rfl b3 ?_)
    refine bodyPost_ret (res_r2 rfl _ _ _ rfl rfl (b3.row _)) rfl ?_
    exact ⟨none, 0, by rw [HQ.out]; rfl, by rw [HQ.out]; exact VR.nil _ _, below_row (HB.out.trans (H1.out.mono HB.out.size)) (by have := HZ.out; omega) _, fun a ha => by cases ha⟩
  have d4 : decide (30 < n) = false := decide_eq_false k4
  have HQ : Hid (takes s x n = some ⟨less s.t x, x, 0, n⟩) := Lib.hid (by unfold takes; rw [if_neg (by rintro (h | h | h | h); exact k1 h; exact h k2; exact k3 h; exact k4 h)])
  clear k1 k2 k3 k4
  go_upto_region 4 with (go_at_call 35; refine (CI.out _ (Below.refl _ _)).mono ?_; rintro e1 w1 ⟨rfl, hb1⟩; have H1 := Lib.hid hb1; clear hb1)
  have S0 := rows_nil (loc_front (Sp.Sep.nil (Below.refl w1.heap.size w1)) 27 #[.slice none 0 0, .int .i64 x, .int .i64 0, .int .i64 n]) 3 1
  have HS0 := Lib.hid S0
  clear S0 c0 c1 r2 d1 d3 d4 CI
  obtain ⟨W2, hW2⟩ : ∃ W2, w1.alloc (.cells #[.slice none 0 0, .int .i64 x, .int .i64 0, .int .i64 n] 27) = W2 := ⟨_, rfl⟩
  obtain ⟨n8, hn8⟩ : ∃ n8, w1.heap.size = n8 := ⟨_, rfl⟩
  rw [hW2] at HS0
  rw [hn8] at HS0
  rw [hW2, hn8]
  have HN8 := Lib.hid hn8
  go_upto_region 5 with fail
  clear hW2 hn8
  obtain ⟨m, hm⟩ : ∃ m, s.t.length = m := ⟨_, rfl⟩
  have HM := Lib.hid hm
  rw [hm] at HV HN
  have BS2 : Hid (Sp.Blk W b0 27 #[.slice A m p, .int .i64 s.v, .int .i64 s.c, .int .i64 s.n]) := Lib.hid (by rw [← hm]; exact BS.out)
  clear BS hm
  go_loopg [9] m (fun gk s9 wr => ∃ (i k : Nat) (A' : Option Addr) (p' : Nat), i ≤ m ∧ gk = m - i ∧ s9 = .int .i64 (i : Nat) ∧ Hid (k = (less (s.t.take i) x).length) ∧ Hid (Sp.Sep w1 wr [locI [(n8, 27, #[.slice A' k p', .int .i64 x, .int .i64 0, .int .i64 n])], rowS 3 1 (.slice A' k p') k (iv (less (s.t.take i) x))]))
  case atStart => exact ⟨0, 0, none, 0, by omega, rfl, rfl, Lib.hid (by simp [less]), by simpa [less, iv] using HS0⟩
  case round =>
    obtain ⟨i, k, A', p', hi, hgk, rfl, HK, HI⟩ := hrel
    have HG := Lib.hid hgk
    clear hgk HS0
    have HWr : Hid (Below W.heap.size W wr) := Lib.hid (H1.out.trans (HI.out.below.mono H1.out.size))
    have c0 : wr.cell? ⟨b0, 0, none⟩ = some (.slice A m p) := (BS2.out.later HWr.out).cell 0
    by_cases hlt : i < m
    · have hl1 : (i : Int) < (m : Int) := by omega
      have wi : IntKind.i64.wrap ((i : Int) + 1) = (i : Int) + 1 := IntWalk.i64_in _ (by have := HN.out; omega)
      obtain ⟨g, o, rfl, hc⟩ := HV.out.c (by omega)
      obtain ⟨y, hy⟩ : ∃ y, s.t[i]? = some y := ⟨_, List.getElem?_eq_getElem (by have := HM.out; omega)⟩
      have hc1 := hc i _ (iv_at hy)
      have HC := Lib.hid hc1
      have HY := Lib.hid hy
      have c1 := (HWr.out.cell (World.block_lt_of_cell? _ _ hc1)).trans hc1
      clear hc hc1 hy
      by_cases hxy : y = x
      · subst hxy
        have h5 : (y != y) = false := by simp
        have HK2 : Hid (less (s.t.take (i + 1)) y = less (s.t.take i) y) := Lib.hid (by rw [take_one HY.out]; simp [less])
        go_wp2_with fail
        go_roundg (m - (i + 1))
        case measure => have := HG.out; omega
        case rel => exact ⟨i + 1, k, A', p', by omega, by have := HG.out; omega, by go_num, Lib.hid (by rw [HK2.out]; exact HK.out), Lib.hid (by rw [HK2.out]; exact HI.out)⟩
      · have h5 : (y != x) = true := by simp; exact hxy
        have HK2 : Hid (less (s.t.take (i + 1)) x = less (s.t.take i) x ++ [y]) := Lib.hid (by rw [take_one HY.out]; unfold less; rw [List.filter_append]; simp [hxy])
        have hk1 : k < 1000 := by have h1 := HK.out; have h2 := less_len (s.t.take i) x; rw [List.length_take] at h2; have := HN.out; omega
        obtain ⟨v', W5, hrun, S5⟩ := rows_pushS (cs := [.int .i64 y]) HI.out.drew (k := 1) rfl Try.underlying23 int_infos rfl (by decide) (by decide) hk1 rfl (by intro u hu; rw [List.mem_singleton.1 hu]; rfl)
        obtain ⟨A9, p9, rfl⟩ := rows_slice S5 (k := 1) rfl
        have S6 := loc_cell S5 (k := 0) rfl 0 (.slice A9 (k + 1) p9)
        have q0 := (loc_blk HI.out (k := 0) rfl).cell 0
        have q1 := ((loc_blk HI.out (k := 0) rfl).later (below1 wr (.cells #[.int .i64 y] 3))).cell 0
        have q2 := (loc_blk S5 (k := 0) rfl).cell 0
        have q3 := (loc_blk S5 (k := 0) rfl).frozen 0
        simp only [List.getElem?_toArray, List.getElem?_cons_zero] at q0 q1 q2
        have hB5 : Below W.heap.size W W5 := H1.out.trans (S5.below.mono H1.out.size)
        have hB6 := H1.out.trans (S6.below.mono H1.out.size)
        have z0 : W5.cell? ⟨b0, 0, none⟩ = some (.slice (some ⟨g, o, none⟩) m p) := (BS2.out.later hB5).cell 0
        have z1 := (hB5.cell (World.block_lt_of_cell? _ _ HC.out)).trans HC.out
        have y0 : _ = some (Value.slice (some ⟨g, o, none⟩) m p) := (BS2.out.later hB6).cell 0
        have y1 := (hB6.cell (World.block_lt_of_cell? _ _ HC.out)).trans HC.out
        have x0 : _ = some (Value.slice (some ⟨g, o, none⟩) m p) := ((BS2.out.later HWr.out).later (below1 wr (.cells #[.int .i64 y] 3))).cell 0
        have x1 := ((below1 wr (.cells #[.int .i64 y] 3)).cell (World.block_lt_of_cell? _ _ c1)).trans c1
        have H6 : Hid (Sp.Sep w1 (W5.setCell ⟨n8, 0, none⟩ (.slice A9 (k + 1) p9)) [locI [(n8, 27, #[.slice A9 (k + 1) p9, .int .i64 x, .int .i64 0, .int .i64 n])], rowS 3 1 (.slice A9 (k + 1) p9) (k + 1) (iv (less (s.t.take (i + 1)) x))]) := Lib.hid (by rw [HK2.out, iv_snoc]; exact S6)
        have HK3 : Hid (k + 1 = (less (s.t.take (i + 1)) x).length) := Lib.hid (by rw [HK2.out, List.length_append, ← HK.out]; rfl)
        change (Builtin.append_ #[23, 23] 23 #[.slice A' k p', .slice (some ⟨wr.heap.size, 0, none⟩) 1 1]).run Try.prog ((wr.alloc (.cells #[.int .i64 y] 3)).drew) = _ at hrun
        clear S5 S6 hB5 hB6
        go_upto_region 8 with fail
        go_region_law (refine step_push (by rfl) (.tmp 47) (.tmp 53) (by rfl) (by rfl) (.slice A' k p') (.slice (some ⟨wr.heap.size, 0, none⟩) 1 1) (by simp [Act.eval]) (by simp [Act.eval]) hrun ?_)
        all_goals
          go_wp2_with fail
          go_roundg (m - (i + 1))
          case measure => have := HG.out; omega
          case rel => exact ⟨i + 1, k + 1, A9, p9, by omega, by have := HG.out; omega, by go_num, HK3, H6⟩
    · obtain rfl : i = m := by omega
      have hl1 : ¬ (i : Int) < (i : Int) := by omega
      have HTK : Hid (s.t.take i = s.t) := Lib.hid (List.take_of_length_le (by have := HM.out; omega))
      rw [HTK.out] at HK HI
      have b8 := loc_blk HI.out (k := 0) rfl
      have b3 := BR.out.later HWr.out
      go_wp2_with (first
        | (with_reducible refine load_r rfl (.tmp 8) rfl n8 rfl b8 ?_)
        | (with_reducible refine store_r rfl (.tmp 6) (.tmp 56) rfl (b0 + 1) rfl rfl b3 ?_))
      refine bodyPost_ret (res_r2 rfl _ _ _ rfl rfl (b3.row _)) rfl ?_
      have hle := HK.out
      subst hle
      refine ⟨A', p', by rw [HQ.out]; rfl, ?_, below_row (HB.out.trans (HWr.out.mono HB.out.size)) (by have := HZ.out; omega) _, fun a ha => by have h1 : w1.heap.size ≤ _ := row_fresh HI.out (k := 1) rfl a ha; have := H1.out.size; have := HB.out.size; omega⟩
      rw [HQ.out]
      exact vr_far (VR.of_row HI.out (k := 1) rfl (by rw [iv_len])) _ (fun a ha => by have h1 : w1.heap.size ≤ _ := row_fresh HI.out (k := 1) rfl a ha; have := BR.out.lt; have := H1.out.size; omega) _
end Go.Proofs.Ytfhdckmpodmejaa.Sw
