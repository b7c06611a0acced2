/- The program's Begin, Take, Seen and Given. -/
import Derived.Test.YtfhdckmpodmejaaSwF
namespace Go.Proofs.Ytfhdckmpodmejaa.Sw
open Go.ChangeShapes Go.WideShapes Go.ChangeAt Go.RowKit Go.Lib Go.Joins Go.Deep
open Sp Rw
set_option linter.unusedVariables false
set_option maxRecDepth 100000

/-- What one of the program's calls tells: a list of its own. -/
inductive OutP (w : World) (o : Option St) (e : Ending) (w' : World) : Prop where
  | mk (A' : Option Addr) (p' : Nat) (he : e = .returned (.tuple #[.agg (sc (st o) A' p'), .int .i64 (er o)])) (hs : Sp.Sep w w' [row A' p' (st o).t])
theorem sep_zero {w w' : World} (hb : Below w.heap.size w w') : Sp.Sep w w' [row none 0 []] := rows_nil (Sp.Sep.nil hb) 3 1
set_option maxHeartbeats 1000000 in
theorem pgiven_any (s : St) (A : Option Addr) (p : Nat) (w : World) (HR : Right s) (hA : VR w A s.t.length (iv s.t)) :
    Calls Try.prog 25 #[.agg (sc s A p)] w (OutP w (gives s)) := by
  obtain ⟨b0, hb0⟩ : ∃ b0, w.heap.size = b0 := ⟨_, rfl⟩
  obtain ⟨W, hW⟩ : ∃ W, (w.alloc (.cells (sc s A p) 25)).alloc (.cells #[.slice none 0 0, .int .i64 0, .int .i64 0, .int .i64 0] 25) = W := ⟨_, rfl⟩
  have HB := Lib.hid (show Below w.heap.size w W by rw [← hW]; exact (below1 _ _).alloc (by simp) _)
  have BS : Hid (Sp.Blk W b0 25 (sc s A p)) := Lib.hid (by rw [← hW, ← hb0]; exact (Sp.Blk.new _ _ _).later (below1 _ _))
  have BR : Hid (Sp.Blk W (b0 + 1) 25 #[.slice none 0 0, .int .i64 0, .int .i64 0, .int .i64 0]) := Lib.hid (by rw [← hW, ← hb0]; exact Sp.Blk.at_ _ _ _ (by simp))
  have HV := Lib.hid (hA.later HB.out)
  have HZ := Lib.hid hb0
  have hn : s.t.length < 1000 := by have := right_len HR; omega
  have CC : Hid (∀ X, Below W.heap.size W X → Calls Try.prog 36 #[.agg (sc s A p)] X fun e w' => ∃ A' p', e = .returned (.agg (sc s A' p')) ∧ Sp.Sep X w' [row A' p' s.t]) := Lib.hid (fun X hX => copied_any s A p X (HV.out.later hX) hn)
  have CN := Lib.hid (fun X => pnext_any s A p false X HR)
  obtain ⟨x, hx⟩ : ∃ x, next s false = x := ⟨_, rfl⟩
  have HX := Lib.hid hx
  rw [hx] at CN
  have wc : IntKind.i64.wrap (s.c + 1) = s.c + 1 := IntWalk.i64_in _ (by have := HR.v; unfold VicOk at this; omega)
  clear hA hn hx HR
  have H0 : Hid (Below W.heap.size W W) := Lib.hid (Below.refl _ _)
  have s0 : W.cell? ⟨b0, 0, none⟩ = _ := (st_cells (BS.out.later H0.out)).1; have s1 : W.cell? ⟨b0, 1, none⟩ = _ := (st_cells (BS.out.later H0.out)).2.1; have s2 : W.cell? ⟨b0, 2, none⟩ = _ := (st_cells (BS.out.later H0.out)).2.2.1; have s3 : W.cell? ⟨b0, 3, none⟩ = _ := (st_cells (BS.out.later H0.out)).2.2.2
  go_enter Try.func25, Try.ntmps25
  go_upto_region 1 with fail
  clear hW hb0
  by_cases h4 : x = 4
  · subst h4
    have HQ : Hid (gives s = some ⟨s.t, -1, 0, 0⟩) := Lib.hid (by unfold gives; rw [if_pos HX.out])
    go_upto_region 3 with (go_at_call 16; refine (CN.out _).mono ?_; rintro e1 w1 ⟨rfl, hb1⟩; have H1 := Lib.hid hb1; clear hb1 s0 s1 s2 s3; have s0 : w1.cell? ⟨b0, 0, none⟩ = _ := (st_cells (BS.out.later H1.out)).1; have s1 : w1.cell? ⟨b0, 1, none⟩ = _ := (st_cells (BS.out.later H1.out)).2.1; have s2 : w1.cell? ⟨b0, 2, none⟩ = _ := (st_cells (BS.out.later H1.out)).2.2.1; have s3 : w1.cell? ⟨b0, 3, none⟩ = _ := (st_cells (BS.out.later H1.out)).2.2.2)
    go_upto_region 5 with (go_at_call 36; refine (CC.out _ H1.out).mono ?_; rintro e2 w2 ⟨A2, p2, rfl, S2⟩; have H2 := Lib.hid S2; clear S2 s0 s1 s2 s3)
    have b2 := (BR.out.later (H1.out.trans (H2.out.below.mono H1.out.size))).later (below1 w2 (.cells #[.slice A2 s.t.length p2, .int .i64 (-1), .int .i64 0, .int .i64 0] 25))
    go_wp2_with (with_reducible refine store_p rfl (.tmp 2) (.tmp 14) rfl (b0 + 1) rfl rfl b2 ?_)
    refine bodyPost_ret (res_p2 rfl _ _ _ rfl rfl (b2.row _)) rfl ?_
    have hl2 := BR.out.lt
    have hl3 := H1.out.size
    have hz := HZ.out
    refine ⟨A2, p2, by rw [HQ.out]; rfl, ?_⟩
    rw [HQ.out]
    exact sep_base (H2.out.alloc _) (HB.out.trans (H1.out.mono HB.out.size)) ((Only.refl _ _).setRow (.inl ⟨by omega, by omega⟩) _)
  · have h5 : (x != 4) = true := by simp; exact h4
    have HQ : Hid (gives s = none) := Lib.hid (by unfold gives; rw [if_neg (by rw [HX.out]; exact h4)])
    go_upto_region 2 with (go_at_call 16; refine (CN.out _).mono ?_; rintro e1 w1 ⟨rfl, hb1⟩; have H1 := Lib.hid hb1; clear hb1 s0 s1 s2 s3)
    have b2 := BR.out.later H1.out
    go_wp2_with (with_reducible refine store_p rfl (.tmp 2) (.tmp 8) rfl (b0 + 1) rfl rfl b2 ?_)
    refine bodyPost_ret (res_p2 rfl _ _ _ rfl rfl (b2.row _)) rfl ?_
    exact ⟨none, 0, by rw [HQ.out]; rfl, by rw [HQ.out]; exact sep_zero (below_row (HB.out.trans (H1.out.mono HB.out.size)) (by have := HZ.out; omega) _)⟩
set_option maxHeartbeats 1000000 in
theorem psees_any (s : St) (A : Option Addr) (p : Nat) (w : World) (HR : Right s) (hA : VR w A s.t.length (iv s.t)) :
    Calls Try.prog 24 #[.agg (sc s A p)] w (OutP w (sees s)) := by
  obtain ⟨b0, hb0⟩ : ∃ b0, w.heap.size = b0 := ⟨_, rfl⟩
  obtain ⟨W, hW⟩ : ∃ W, (w.alloc (.cells (sc s A p) 25)).alloc (.cells #[.slice none 0 0, .int .i64 0, .int .i64 0, .int .i64 0] 25) = W := ⟨_, rfl⟩
  have HB := Lib.hid (show Below w.heap.size w W by rw [← hW]; exact (below1 _ _).alloc (by simp) _)
  have BS : Hid (Sp.Blk W b0 25 (sc s A p)) := Lib.hid (by rw [← hW, ← hb0]; exact (Sp.Blk.new _ _ _).later (below1 _ _))
  have BR : Hid (Sp.Blk W (b0 + 1) 25 #[.slice none 0 0, .int .i64 0, .int .i64 0, .int .i64 0]) := Lib.hid (by rw [← hW, ← hb0]; exact Sp.Blk.at_ _ _ _ (by simp))
  have HV := Lib.hid (hA.later HB.out)
  have HZ := Lib.hid hb0
  have hn : s.t.length < 1000 := by have := right_len HR; omega
  have CC : Hid (∀ X, Below W.heap.size W X → Calls Try.prog 36 #[.agg (sc s A p)] X fun e w' => ∃ A' p', e = .returned (.agg (sc s A' p')) ∧ Sp.Sep X w' [row A' p' s.t]) := Lib.hid (fun X hX => copied_any s A p X (HV.out.later hX) hn)
  have CN := Lib.hid (fun X => pnext_any s A p false X HR)
  obtain ⟨x, hx⟩ : ∃ x, next s false = x := ⟨_, rfl⟩
  have HX := Lib.hid hx
  rw [hx] at CN
  have wc : IntKind.i64.wrap (s.c + 1) = s.c + 1 := IntWalk.i64_in _ (by have := HR.v; unfold VicOk at this; omega)
  clear hA hn hx HR
  have H0 : Hid (Below W.heap.size W W) := Lib.hid (Below.refl _ _)
  have s0 : W.cell? ⟨b0, 0, none⟩ = _ := (st_cells (BS.out.later H0.out)).1; have s1 : W.cell? ⟨b0, 1, none⟩ = _ := (st_cells (BS.out.later H0.out)).2.1; have s2 : W.cell? ⟨b0, 2, none⟩ = _ := (st_cells (BS.out.later H0.out)).2.2.1; have s3 : W.cell? ⟨b0, 3, none⟩ = _ := (st_cells (BS.out.later H0.out)).2.2.2
  go_enter Try.func24, Try.ntmps24
  go_upto_region 1 with fail
  clear hW hb0
  by_cases h4 : x = 3
  · subst h4
    have HQ : Hid (sees s = some ⟨s.t, s.v, s.c + 1, s.n⟩) := Lib.hid (by unfold sees; rw [if_pos HX.out])
    go_upto_region 3 with (go_at_call 16; refine (CN.out _).mono ?_; rintro e1 w1 ⟨rfl, hb1⟩; have H1 := Lib.hid hb1; clear hb1 s0 s1 s2 s3; have s0 : w1.cell? ⟨b0, 0, none⟩ = _ := (st_cells (BS.out.later H1.out)).1; have s1 : w1.cell? ⟨b0, 1, none⟩ = _ := (st_cells (BS.out.later H1.out)).2.1; have s2 : w1.cell? ⟨b0, 2, none⟩ = _ := (st_cells (BS.out.later H1.out)).2.2.1; have s3 : w1.cell? ⟨b0, 3, none⟩ = _ := (st_cells (BS.out.later H1.out)).2.2.2)
    go_upto_region 5 with (go_at_call 36; refine (CC.out _ H1.out).mono ?_; rintro e2 w2 ⟨A2, p2, rfl, S2⟩; have H2 := Lib.hid S2; clear S2 s0 s1 s2 s3)
    have b2 := (BR.out.later (H1.out.trans (H2.out.below.mono H1.out.size))).later (below1 w2 (.cells #[.slice A2 s.t.length p2, .int .i64 s.v, .int .i64 (s.c + 1), .int .i64 s.n] 25))
    go_wp2_with (with_reducible refine store_p rfl (.tmp 2) (.tmp 15) rfl (b0 + 1) rfl rfl b2 ?_)
    refine bodyPost_ret (res_p2 rfl _ _ _ rfl rfl (b2.row _)) rfl ?_
    have hl2 := BR.out.lt
    have hl3 := H1.out.size
    have hz := HZ.out
    refine ⟨A2, p2, by rw [HQ.out]; rfl, ?_⟩
    rw [HQ.out]
    exact sep_base (H2.out.alloc _) (HB.out.trans (H1.out.mono HB.out.size)) ((Only.refl _ _).setRow (.inl ⟨by omega, by omega⟩) _)
  · have h5 : (x != 3) = true := by simp; exact h4
    have HQ : Hid (sees s = none) := Lib.hid (by unfold sees; rw [if_neg (by rw [HX.out]; exact h4)])
    go_upto_region 2 with (go_at_call 16; refine (CN.out _).mono ?_; rintro e1 w1 ⟨rfl, hb1⟩; have H1 := Lib.hid hb1; clear hb1 s0 s1 s2 s3)
    have b2 := BR.out.later H1.out
    go_wp2_with (with_reducible refine store_p rfl (.tmp 2) (.tmp 8) rfl (b0 + 1) rfl rfl b2 ?_)
    refine bodyPost_ret (res_p2 rfl _ _ _ rfl rfl (b2.row _)) rfl ?_
    exact ⟨none, 0, by rw [HQ.out]; rfl, by rw [HQ.out]; exact sep_zero (below_row (HB.out.trans (H1.out.mono HB.out.size)) (by have := HZ.out; omega) _)⟩
set_option maxHeartbeats 1000000 in
theorem pbegin_any (s : St) (A : Option Addr) (p : Nat) (B : Option Addr) (m c : Nat) (l : List Int) (w : World) (HR : Right s) (hA : VR w A s.t.length (iv s.t)) (hB : VR w B m (iv l)) (hm : m < 1000) :
    Calls Try.prog 22 #[.agg (sc s A p), .slice B m c] w (OutP w (begins s l)) := by
  obtain ⟨b0, hb0⟩ : ∃ b0, w.heap.size = b0 := ⟨_, rfl⟩
  obtain ⟨W, hW⟩ : ∃ W, (w.alloc (.cells (sc s A p) 25)).alloc (.cells #[.slice none 0 0, .int .i64 0, .int .i64 0, .int .i64 0] 25) = W := ⟨_, rfl⟩
  have HB := Lib.hid (show Below w.heap.size w W by rw [← hW]; exact (below1 _ _).alloc (by simp) _)
  have BS : Hid (Sp.Blk W b0 25 (sc s A p)) := Lib.hid (by rw [← hW, ← hb0]; exact (Sp.Blk.new _ _ _).later (below1 _ _))
  have BR : Hid (Sp.Blk W (b0 + 1) 25 #[.slice none 0 0, .int .i64 0, .int .i64 0, .int .i64 0]) := Lib.hid (by rw [← hW, ← hb0]; exact Sp.Blk.at_ _ _ _ (by simp))
  have HV := Lib.hid (hA.later HB.out)
  have HZ := Lib.hid hb0
  have hn : s.t.length < 1000 := by have := right_len HR; omega
  have CC : Hid (∀ X, Below W.heap.size W X → Calls Try.prog 36 #[.agg (sc s A p)] X fun e w' => ∃ A' p', e = .returned (.agg (sc s A' p')) ∧ Sp.Sep X w' [row A' p' s.t]) := Lib.hid (fun X hX => copied_any s A p X (HV.out.later hX) hn)
  have hml : m = l.length := by have := hB.len; rwa [iv_len] at this
  subst hml
  obtain ⟨W3, hW3⟩ : ∃ W3, W.alloc (.cells (sc ⟨l, -1, 0, 0⟩ B c) 25) = W3 := ⟨_, rfl⟩
  obtain ⟨n6, hn6⟩ : ∃ n6, W.heap.size = n6 := ⟨_, rfl⟩
  have H3 := Lib.hid (show Below W.heap.size W W3 by rw [← hW3]; exact below1 _ _)
  have HB3 := Lib.hid (HB.out.trans (H3.out.mono HB.out.size))
  have B6 : Hid (Sp.Blk W3 n6 25 (sc ⟨l, -1, 0, 0⟩ B c)) := Lib.hid (by rw [← hW3, ← hn6]; exact Sp.Blk.new _ _ _)
  have BS3 := Lib.hid (BS.out.later H3.out)
  have BR3 := Lib.hid (BR.out.later H3.out)
  have HVB := Lib.hid (hB.later HB3.out)
  have CR : Hid (∀ X, Below W3.heap.size W3 X → Calls Try.prog 11 #[.agg (sc ⟨l, -1, 0, 0⟩ B c)] X fun e w' => e = .returned (.bool (decide (Right ⟨l, -1, 0, 0⟩))) ∧ Below X.heap.size X w') := Lib.hid (fun X hX => pright_any ⟨l, -1, 0, 0⟩ B c X (HVB.out.later hX) (by simp only; omega))
  have CD : Hid (∀ X, Below W3.heap.size W3 X → Calls Try.prog 36 #[.agg (sc ⟨l, -1, 0, 0⟩ B c)] X fun e w' => ∃ A' p', e = .returned (.agg (sc ⟨l, -1, 0, 0⟩ A' p')) ∧ Sp.Sep X w' [row A' p' l]) := Lib.hid (fun X hX => copied_any ⟨l, -1, 0, 0⟩ B c X (HVB.out.later hX) hm)
  have CV := Lib.hid (fun X => hv_any s A p X HR)
  have H0 : Hid (Below W3.heap.size W3 W3) := Lib.hid (Below.refl _ _)
  have HW3 := Lib.hid hW3
  have HN6 := Lib.hid hn6
  clear HR hA hB hn hm CC HV BS BR hW3 hn6
  have s0 : W3.cell? ⟨b0, 0, none⟩ = _ := (st_cells (BS3.out.later H0.out)).1; have s1 : W3.cell? ⟨b0, 1, none⟩ = _ := (st_cells (BS3.out.later H0.out)).2.1; have s2 : W3.cell? ⟨b0, 2, none⟩ = _ := (st_cells (BS3.out.later H0.out)).2.2.1; have s3 : W3.cell? ⟨b0, 3, none⟩ = _ := (st_cells (BS3.out.later H0.out)).2.2.2
  have m0 : W3.cell? ⟨n6, 0, none⟩ = _ := (st_cells B6.out).1
  have m1 : W3.cell? ⟨n6, 1, none⟩ = _ := (st_cells B6.out).2.1
  have m2 : W3.cell? ⟨n6, 2, none⟩ = _ := (st_cells B6.out).2.2.1
  have m3 : W3.cell? ⟨n6, 3, none⟩ = _ := (st_cells B6.out).2.2.2
  simp only at m0 m1 m2 m3
  go_enter Try.func22, Try.ntmps22
  go_upto_region 2 with fail
  change Code.wp _ _ _ _ (W.alloc (.cells (sc ⟨l, -1, 0, 0⟩ B c) 25))
  rw [HW3.out, HN6.out]
  clear hW hb0
  by_cases k1 : 0 ≤ s.v
  · rw [decide_eq_true k1] at CV
    have HQ : Hid (begins s l = none) := Lib.hid (by unfold begins; rw [if_pos (.inl k1)])
    clear k1
    go_wp2_with (first
      | (go_at_call 11; refine (CR.out _ H1.out).mono ?_; rintro e2 w2 ⟨rfl, hb2⟩; have H2 := Lib.hid (H1.out.trans (hb2.mono H1.out.size)); clear hb2; have b4 := BR3.out.later H2.out; have m0 : w2.cell? ⟨n6, 0, none⟩ = _ := (st_cells (B6.out.later H2.out)).1; have m1 : w2.cell? ⟨n6, 1, none⟩ = _ := (st_cells (B6.out.later H2.out)).2.1; have m2 : w2.cell? ⟨n6, 2, none⟩ = _ := (st_cells (B6.out.later H2.out)).2.2.1; have m3 : w2.cell? ⟨n6, 3, none⟩ = _ := (st_cells (B6.out.later H2.out)).2.2.2; simp only at m0 m1 m2 m3)
      | (go_at_call 34; refine (CV.out _).mono ?_; rintro e1 w1 ⟨rfl, hb1⟩; have H1 := Lib.hid hb1; clear hb1 s0 s1 s2 s3; have b3 := BR3.out.later H1.out; have s0 : w1.cell? ⟨b0, 0, none⟩ = _ := (st_cells (BS3.out.later H1.out)).1; have s1 : w1.cell? ⟨b0, 1, none⟩ = _ := (st_cells (BS3.out.later H1.out)).2.1; have s2 : w1.cell? ⟨b0, 2, none⟩ = _ := (st_cells (BS3.out.later H1.out)).2.2.1; have s3 : w1.cell? ⟨b0, 3, none⟩ = _ := (st_cells (BS3.out.later H1.out)).2.2.2; have m0 : w1.cell? ⟨n6, 0, none⟩ = _ := (st_cells (B6.out.later H1.out)).1; have m1 : w1.cell? ⟨n6, 1, none⟩ = _ := (st_cells (B6.out.later H1.out)).2.1; have m2 : w1.cell? ⟨n6, 2, none⟩ = _ := (st_cells (B6.out.later H1.out)).2.2.1; have m3 : w1.cell? ⟨n6, 3, none⟩ = _ := (st_cells (B6.out.later H1.out)).2.2.2; simp only at m0 m1 m2 m3)
      | (with_reducible refine store_p rfl (.tmp 4) (.tmp 22) rfl (b0 + 1) rfl rfl b4 ?_)
      | (with_reducible refine store_p rfl (.tmp 4) (.tmp 22) rfl (b0 + 1) rfl rfl b3 ?_))
    refine bodyPost_ret (res_p2 rfl _ _ _ rfl rfl (b3.row _)) rfl ?_
    exact ⟨none, 0, by rw [HQ.out]; rfl, by rw [HQ.out]; exact sep_zero (below_row (HB3.out.trans (H1.out.mono HB3.out.size)) (by have := HZ.out; omega) _)⟩
  rw [decide_eq_false k1] at CV
  by_cases k2 : s.t = []
  case neg =>
    have h4 : 0 < s.t.length := List.length_pos_iff.2 k2
    have d4 : decide (0 < s.t.length) = true := decide_eq_true h4
    have d5 : decide ((0 : Int) < (s.t.length : Int)) = true := decide_eq_true (by omega)
    have HQ : Hid (begins s l = none) := Lib.hid (by unfold begins; rw [if_pos (.inr (.inl k2))])
    clear k1 k2
    go_wp2_with (first
      | (go_at_call 11; refine (CR.out _ H1.out).mono ?_; rintro e2 w2 ⟨rfl, hb2⟩; have H2 := Lib.hid (H1.out.trans (hb2.mono H1.out.size)); clear hb2; have b4 := BR3.out.later H2.out; have m0 : w2.cell? ⟨n6, 0, none⟩ = _ := (st_cells (B6.out.later H2.out)).1; have m1 : w2.cell? ⟨n6, 1, none⟩ = _ := (st_cells (B6.out.later H2.out)).2.1; have m2 : w2.cell? ⟨n6, 2, none⟩ = _ := (st_cells (B6.out.later H2.out)).2.2.1; have m3 : w2.cell? ⟨n6, 3, none⟩ = _ := (st_cells (B6.out.later H2.out)).2.2.2; simp only at m0 m1 m2 m3)
      | (go_at_call 34; refine (CV.out _).mono ?_; rintro e1 w1 ⟨rfl, hb1⟩; have H1 := Lib.hid hb1; clear hb1 s0 s1 s2 s3; have b3 := BR3.out.later H1.out; have s0 : w1.cell? ⟨b0, 0, none⟩ = _ := (st_cells (BS3.out.later H1.out)).1; have s1 : w1.cell? ⟨b0, 1, none⟩ = _ := (st_cells (BS3.out.later H1.out)).2.1; have s2 : w1.cell? ⟨b0, 2, none⟩ = _ := (st_cells (BS3.out.later H1.out)).2.2.1; have s3 : w1.cell? ⟨b0, 3, none⟩ = _ := (st_cells (BS3.out.later H1.out)).2.2.2; have m0 : w1.cell? ⟨n6, 0, none⟩ = _ := (st_cells (B6.out.later H1.out)).1; have m1 : w1.cell? ⟨n6, 1, none⟩ = _ := (st_cells (B6.out.later H1.out)).2.1; have m2 : w1.cell? ⟨n6, 2, none⟩ = _ := (st_cells (B6.out.later H1.out)).2.2.1; have m3 : w1.cell? ⟨n6, 3, none⟩ = _ := (st_cells (B6.out.later H1.out)).2.2.2; simp only at m0 m1 m2 m3)
      | (with_reducible refine store_p rfl (.tmp 4) (.tmp 22) rfl (b0 + 1) rfl rfl b4 ?_)
      | (with_reducible refine store_p rfl (.tmp 4) (.tmp 22) rfl (b0 + 1) rfl rfl b3 ?_))
    refine bodyPost_ret (res_p2 rfl _ _ _ rfl rfl (b3.row _)) rfl ?_
    exact ⟨none, 0, by rw [HQ.out]; rfl, by rw [HQ.out]; exact sep_zero (below_row (HB3.out.trans (H1.out.mono HB3.out.size)) (by have := HZ.out; omega) _)⟩
  have d4 : decide (0 < s.t.length) = false := by rw [k2]; rfl
  have d5 : decide ((0 : Int) < (s.t.length : Int)) = false := by rw [k2]; rfl
  by_cases k3 : Right ⟨l, -1, 0, 0⟩
  case neg =>
    rw [decide_eq_false k3] at CR
    have HQ : Hid (begins s l = none) := Lib.hid (by unfold begins; rw [if_pos (.inr (.inr k3))])
    clear k1 k2 k3
    go_wp2_with (first
      | (go_at_call 11; refine (CR.out _ H1.out).mono ?_; rintro e2 w2 ⟨rfl, hb2⟩; have H2 := Lib.hid (H1.out.trans (hb2.mono H1.out.size)); clear hb2; have b4 := BR3.out.later H2.out; have m0 : w2.cell? ⟨n6, 0, none⟩ = _ := (st_cells (B6.out.later H2.out)).1; have m1 : w2.cell? ⟨n6, 1, none⟩ = _ := (st_cells (B6.out.later H2.out)).2.1; have m2 : w2.cell? ⟨n6, 2, none⟩ = _ := (st_cells (B6.out.later H2.out)).2.2.1; have m3 : w2.cell? ⟨n6, 3, none⟩ = _ := (st_cells (B6.out.later H2.out)).2.2.2; simp only at m0 m1 m2 m3)
      | (go_at_call 34; refine (CV.out _).mono ?_; rintro e1 w1 ⟨rfl, hb1⟩; have H1 := Lib.hid hb1; clear hb1 s0 s1 s2 s3; have b3 := BR3.out.later H1.out; have s0 : w1.cell? ⟨b0, 0, none⟩ = _ := (st_cells (BS3.out.later H1.out)).1; have s1 : w1.cell? ⟨b0, 1, none⟩ = _ := (st_cells (BS3.out.later H1.out)).2.1; have s2 : w1.cell? ⟨b0, 2, none⟩ = _ := (st_cells (BS3.out.later H1.out)).2.2.1; have s3 : w1.cell? ⟨b0, 3, none⟩ = _ := (st_cells (BS3.out.later H1.out)).2.2.2; have m0 : w1.cell? ⟨n6, 0, none⟩ = _ := (st_cells (B6.out.later H1.out)).1; have m1 : w1.cell? ⟨n6, 1, none⟩ = _ := (st_cells (B6.out.later H1.out)).2.1; have m2 : w1.cell? ⟨n6, 2, none⟩ = _ := (st_cells (B6.out.later H1.out)).2.2.1; have m3 : w1.cell? ⟨n6, 3, none⟩ = _ := (st_cells (B6.out.later H1.out)).2.2.2; simp only at m0 m1 m2 m3)
      | (with_reducible refine store_p rfl (.tmp 4) (.tmp 22) rfl (b0 + 1) rfl rfl b4 ?_)
      | (with_reducible refine store_p rfl (.tmp 4) (.tmp 22) rfl (b0 + 1) rfl rfl b3 ?_))
    refine bodyPost_ret (res_p2 rfl _ _ _ rfl rfl (b4.row _)) rfl ?_
    exact ⟨none, 0, by rw [HQ.out]; rfl, by rw [HQ.out]; exact sep_zero (below_row (HB3.out.trans (H2.out.mono HB3.out.size)) (by have := HZ.out; omega) _)⟩
  rw [decide_eq_true k3] at CR
  have HQ : Hid (begins s l = some ⟨l, -1, 0, 0⟩) := Lib.hid (by unfold begins; rw [if_neg (by rintro (h | h | h); exact k1 h; exact h k2; exact h k3)])
  clear k1 k2 k3
  go_upto_region 4 with (first
  | (go_at_call 11; refine (CR.out _ H1.out).mono ?_; rintro e2 w2 ⟨rfl, hb2⟩; have H2 := Lib.hid (H1.out.trans (hb2.mono H1.out.size)); clear hb2; have b4 := BR3.out.later H2.out; have m0 : w2.cell? ⟨n6, 0, none⟩ = _ := (st_cells (B6.out.later H2.out)).1; have m1 : w2.cell? ⟨n6, 1, none⟩ = _ := (st_cells (B6.out.later H2.out)).2.1; have m2 : w2.cell? ⟨n6, 2, none⟩ = _ := (st_cells (B6.out.later H2.out)).2.2.1; have m3 : w2.cell? ⟨n6, 3, none⟩ = _ := (st_cells (B6.out.later H2.out)).2.2.2; simp only at m0 m1 m2 m3)
  | (go_at_call 34; refine (CV.out _).mono ?_; rintro e1 w1 ⟨rfl, hb1⟩; have H1 := Lib.hid hb1; clear hb1 s0 s1 s2 s3; have b3 := BR3.out.later H1.out; have s0 : w1.cell? ⟨b0, 0, none⟩ = _ := (st_cells (BS3.out.later H1.out)).1; have s1 : w1.cell? ⟨b0, 1, none⟩ = _ := (st_cells (BS3.out.later H1.out)).2.1; have s2 : w1.cell? ⟨b0, 2, none⟩ = _ := (st_cells (BS3.out.later H1.out)).2.2.1; have s3 : w1.cell? ⟨b0, 3, none⟩ = _ := (st_cells (BS3.out.later H1.out)).2.2.2; have m0 : w1.cell? ⟨n6, 0, none⟩ = _ := (st_cells (B6.out.later H1.out)).1; have m1 : w1.cell? ⟨n6, 1, none⟩ = _ := (st_cells (B6.out.later H1.out)).2.1; have m2 : w1.cell? ⟨n6, 2, none⟩ = _ := (st_cells (B6.out.later H1.out)).2.2.1; have m3 : w1.cell? ⟨n6, 3, none⟩ = _ := (st_cells (B6.out.later H1.out)).2.2.2; simp only at m0 m1 m2 m3)
  | (with_reducible refine store_p rfl (.tmp 4) (.tmp 22) rfl (b0 + 1) rfl rfl b4 ?_)
  | (with_reducible refine store_p rfl (.tmp 4) (.tmp 22) rfl (b0 + 1) rfl rfl b3 ?_))
  go_wp2_with (first
    | (go_at_call 36; refine (CD.out _ H2.out).mono ?_; rintro e3 w3 ⟨A3, p3, rfl, S3⟩; have H3 := Lib.hid S3; have b5 := b4.later S3.below; clear S3)
    | (with_reducible refine store_p rfl (.tmp 4) (.tmp 24) rfl (b0 + 1) rfl rfl b5 ?_))
  refine bodyPost_ret (res_p2 rfl _ _ _ rfl rfl (b5.row _)) rfl ?_
  have hl2 := BR3.out.lt
  have hl3 := H2.out.size
  have hz := HZ.out
  refine ⟨A3, p3, by rw [HQ.out]; rfl, ?_⟩
  rw [HQ.out]
  exact sep_base H3.out (HB3.out.trans (H2.out.mono HB3.out.size)) ((Only.refl _ _).setRow (.inl ⟨by omega, by omega⟩) _)
end Go.Proofs.Ytfhdckmpodmejaa.Sw
