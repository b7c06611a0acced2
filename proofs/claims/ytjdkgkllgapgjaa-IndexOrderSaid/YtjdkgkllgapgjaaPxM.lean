/- The program's Add. -/
import Derived.Test.YtjdkgkllgapgjaaPxL
namespace Go.Proofs.Ytjdkgkllgapgjaa.Px
open Go.RowKit Go.Lib Go.Maps
open Re (Rec Key new_cells rcA isL below_drewN key_total)
open Ix
open Sp
set_option linter.unusedVariables false
set_option linter.unusedSimpArgs false
set_option maxRecDepth 100000

theorem cnt0_some {S : List Std} {f : Std → Bool} (h : cnt0 (S.countP f) ≠ none) : ∃ a ∈ S, f a = true := by
  unfold cnt0 at h
  split at h
  · exact absurd rfl h
  · rename_i h1
    exact List.countP_pos_iff.1 (Nat.pos_of_ne_zero h1)
section
variable {W w w' : World} {items : List Sp.Item} {k g : Nat} {x : Idx} {t : St}
theorem stand_x (h : Sp.Sep W w items) (hk : items[k]? = some (mI t)) (hG : Ix.Good x) (hS : Stn t x.S noX) (hE : Ent t x.L) {i : ByteArray} (hi : i.size ≤ maxLen) {s p : Int} (hs : I64 s) (hp : I64 p) (hat : x.S.find? (isAt s p) = none) :
    Calls Try.prog 25 #[.pointer (some ⟨t.g, 0, none⟩), .string i, .agg #[.int .i64 s, .int .i64 p]] w fun e w' => e = .returned (.tuple #[]) ∧ ∃ t5 : St, t5.g = t.g ∧ Stn t5 (x.S ++ [⟨i, s, p⟩]) noX ∧ Ent t5 x.L ∧ Sp.Sep W w' (items.set k (mI t5)) := by
  have hn := hG.n
  refine (stand_any h hk hi hs hp (LP := x.S.map fun a => locK a.s a.p) (fun l hl => by obtain ⟨a, ha, e⟩ := hS.fpn l hl; exact List.mem_map.2 ⟨a, ha, e.symm⟩) (by rw [List.length_map]; omega)
    (LC := x.S.map Std.key) (fun k hk => ?_) (by rw [List.length_map]; omega) (LS := x.S.map Std.s) (fun s hs => ?_) (by rw [List.length_map]; omega)
    (LM := x.S.map Std.key) (fun hq k hk => ?_) (by rw [List.length_map]; omega) (fun hq => ?_) ?_ (fun hq => ?_)).mono ?_
  · rw [hS.fc] at hk
    obtain ⟨a, ha, e⟩ := cnt0_some hk
    exact List.mem_map.2 ⟨a, ha, by simpa using e⟩
  · obtain ⟨a, ha, e⟩ := (hS.q s id).1 (Option.isSome_iff_ne_none.2 hs)
    exact List.mem_map.2 ⟨a, ha, e⟩
  · rw [hS.sc s k id hq] at hk
    obtain ⟨a, ha, e⟩ := cnt0_some hk
    simp only [Bool.and_eq_true, decide_eq_true_eq] at e
    exact List.mem_map.2 ⟨a, ha, e.2⟩
  · rw [hS.sl s id hq]
    unfold slots
    rw [List.length_map]
    exact Nat.le_trans (List.length_filter_le _ _) (by omega)
  · rw [hS.fc, cnt0_get]
    have : cntK x.S i.toList ≤ x.S.length := List.countP_le_length
    unfold Sm
    omega
  · rw [hS.sc s _ id hq, cnt0_get]
    have : cntS x.S s i.toList ≤ x.S.length := List.countP_le_length
    unfold Sm
    omega
  · rintro e w' ⟨rfl, v, h1, h2⟩
    refine ⟨rfl, ?_⟩
    cases hq : t.q s with
    | some e => exact ⟨stdB (stdA t i s p) i s p e v, rfl, hS.stand_old hat hs hp hq v, hE.stand_old hq v, h1 e hq⟩
    | none =>
      obtain ⟨n, h3⟩ := h2 hq
      exact ⟨stdB ((stdA t i s p).newS s n) i s p ⟨n + 1, .slice none 0 0, n⟩ v, rfl, hS.stand_new hat hs hp hq n v, hE.stand_new (no_ent hG hS (by rw [hq]; decide)) n v, h3⟩
set_option maxHeartbeats 8000000 in
theorem ad_any (r : Rec) (s p : Int) (hs0 : 0 ≤ s) (hp0 : 0 ≤ p) (h : Sp.Sep W w items) (hk : items[k]? = some (XI g x)) (hG : Ix.Good x) (hr : RF r) (hn : x.S.length < 200) (hs : I64 s) (hp : I64 p) :
    Calls Try.prog 18 #[.pointer (some ⟨g, 0, none⟩), .agg (rcA r), .agg #[.int .i64 s, .int .i64 p]] w fun e w' => e = .returned (.bool (addB x r s p)) ∧ Sp.Sep W w' (items.set k (XI g (addX x r s p))) := by
  obtain ⟨t, rfl, hS, hE, h1⟩ := XI_open h hk
  have hk1 := set_at hk (mI t)
  obtain ⟨n, hnn⟩ : ∃ n, w.heap.size = n := ⟨_, rfl⟩
  have h2 := loc_alloc (loc_alloc h1 44 (rcA r)) 32 #[.int .i64 s, .int .i64 p]
  rw [show (w.alloc (.cells (rcA r) 44)).heap.size = n + 1 by rw [← hnn]; simp, hnn] at h2
  obtain ⟨J, hJ⟩ : ∃ J, items.set k (mI t) ++ [locI [(n, 44, rcA r)]] ++ [locI [(n + 1, 32, #[.int .i64 s, .int .i64 p])]] = J := ⟨_, rfl⟩
  rw [hJ] at h2
  have HJ := Lib.hid hJ
  have HK : Hid (J[k]? = some (mI t)) := Lib.hid (by rw [← hJ]; exact app_at (app_at hk1))
  have HR : Hid (J[items.length]? = some (locI [(n, 44, rcA r)])) := Lib.hid (by rw [← hJ, ← List.length_set (i := k) (a := mI t)]; exact app_at app_last)
  have HL : Hid (J[items.length + 1]? = some (locI [(n + 1, 32, #[.int .i64 s, .int .i64 p])])) := Lib.hid (by
    rw [← hJ]
    have : items.length + 1 = (items.set k (mI t) ++ [locI [(n, 44, rcA r)]]).length := by simp
    rw [this]; exact app_last)
  have HKK := Lib.hid hk
  have H2 := Lib.hid h2
  have HG := Lib.hid hG
  have HS := Lib.hid hS
  have HE := Lib.hid hE
  have HRF := Lib.hid hr
  have HN := Lib.hid hn
  have HI := Lib.hid (And.intro hs hp)
  have HI0 := Lib.hid (And.intro hs0 hp0)
  have HW := Lib.hid h
  have HWB : Hid (Below w.heap.size w ((w.alloc (.cells (rcA r) 44)).alloc (.cells #[.int .i64 s, .int .i64 p] 32))) := Lib.hid (((Below.refl _ _).alloc (Nat.le_refl _) _).alloc (by simp) _)
  clear h hk hG hr hn hs hp hs0 hp0 hS hE h1 hk1 h2 hJ
  go_enter Try.func18, Try.ntmps18
  go_upto_region 1 with fail
  generalize (w.alloc (.cells (rcA r) 44)).alloc (.cells #[.int .i64 s, .int .i64 p] 32) = X at *
  clear hnn
  have c0 : X.cell? ⟨n, 0, none⟩ = some (.int .u64 r.l) := (loc_blk H2.out HR.out).cell 0
  have c1 : X.cell? ⟨n, 1, none⟩ = some (.int .u32 r.e) := (loc_blk H2.out HR.out).cell 1
  have c2 : X.cell? ⟨n, 2, none⟩ = some (.int .i64 r.k) := (loc_blk H2.out HR.out).cell 2
  have c3 : X.cell? ⟨n, 3, none⟩ = some (.int .u64 r.v) := (loc_blk H2.out HR.out).cell 3
  have c4 : X.cell? ⟨n, 4, none⟩ = some (.int .u64 r.d) := (loc_blk H2.out HR.out).cell 4
  have c5 : X.cell? ⟨n, 5, none⟩ = some (.string r.i) := (loc_blk H2.out HR.out).cell 5
  have c6 : X.cell? ⟨n, 6, none⟩ = some (.string r.a) := (loc_blk H2.out HR.out).cell 6
  have u0 : X.cell? ⟨n + 1, 0, none⟩ = some (.int .i64 s) := (loc_blk H2.out HL.out).cell 0
  have u1 : X.cell? ⟨n + 1, 1, none⟩ = some (.int .i64 p) := (loc_blk H2.out HL.out).cell 1
  have HNO : Hid (addB x r s p = false → addX x r s p = x → ∀ w', Below X.heap.size X w' → Value.bool false = .bool (addB x r s p) ∧ Sp.Sep W w' (items.set k (XI t.g (addX x r s p)))) := Lib.hid (fun e1 e2 w' hb => by
    rw [e1, e2, set_same HKK.out]
    exact ⟨rfl, HW.out.later (HWB.out.trans (hb.mono HWB.out.size))⟩)
  by_cases hl : isL r = true
  · have hof := ofs_any r X
    rw [hl] at hof
    have HOF := Lib.hid hof
    clear hof
    cases hat : x.S.find? (isAt s p) with
    | some c =>
      have HM : Hid (addB x r s p = false ∧ addX x r s p = x) := Lib.hid (by
        have hm : mayX x r s p = false := by unfold mayX atX; rw [hat, hl]; rfl
        unfold addB addX
        rw [hm]
        exact ⟨rfl, rfl⟩)
      have HV : Hid (∀ w3, Sp.Sep W w3 J → Calls Try.prog 24 #[.pointer (some ⟨t.g, 0, none⟩), .agg #[.int .i64 s, .int .i64 p]] w3 fun e w' => e = .returned (.bool false) ∧ Below w3.heap.size w3 w') := Lib.hid (fun w3 h3 => by
        have := vacant_any h3 HK.out HI.out.1 HI.out.2 HI0.out.1 HI0.out.2
        rw [HS.out.fp s p HI.out.1 HI.out.2, hat] at this
        exact this)
      clear hat hl
      go_wp2_with (first
        | (go_at_call 23; refine HOF.out.mono ?_; rintro e3 w3 ⟨rfl, hb3⟩; have H3 := Lib.hid (H2.out.later hb3); have HB3 := Lib.hid hb3; clear hb3 c0 c1 c2 c3 c4 c5 c6 u0 u1;
           have c0 : w3.cell? ⟨n, 0, none⟩ = some (.int .u64 r.l) := (loc_blk H3.out HR.out).cell 0
           have c1 : w3.cell? ⟨n, 1, none⟩ = some (.int .u32 r.e) := (loc_blk H3.out HR.out).cell 1
           have c2 : w3.cell? ⟨n, 2, none⟩ = some (.int .i64 r.k) := (loc_blk H3.out HR.out).cell 2
           have c3 : w3.cell? ⟨n, 3, none⟩ = some (.int .u64 r.v) := (loc_blk H3.out HR.out).cell 3
           have c4 : w3.cell? ⟨n, 4, none⟩ = some (.int .u64 r.d) := (loc_blk H3.out HR.out).cell 4
           have c5 : w3.cell? ⟨n, 5, none⟩ = some (.string r.i) := (loc_blk H3.out HR.out).cell 5
           have c6 : w3.cell? ⟨n, 6, none⟩ = some (.string r.a) := (loc_blk H3.out HR.out).cell 6
           have u0 : w3.cell? ⟨n + 1, 0, none⟩ = some (.int .i64 s) := (loc_blk H3.out HL.out).cell 0
           have u1 : w3.cell? ⟨n + 1, 1, none⟩ = some (.int .i64 p) := (loc_blk H3.out HL.out).cell 1
           skip)
        | (go_at_call 24; refine (HV.out _ H3.out).mono ?_; rintro e4 w4 ⟨rfl, hb4⟩; have HB4 := Lib.hid (HB3.out.trans (hb4.mono HB3.out.size)); clear hb4))
      go_ret
      have q := HNO.out HM.out.1 HM.out.2 _ HB4.out
      exact ⟨by rw [← q.1]; rfl, q.2⟩
    | none =>
      have HM : Hid (mayX x r s p = true) := Lib.hid (by unfold mayX atX; rw [hat, hl]; rfl)
      have HV : Hid (∀ w3, Sp.Sep W w3 J → Calls Try.prog 24 #[.pointer (some ⟨t.g, 0, none⟩), .agg #[.int .i64 s, .int .i64 p]] w3 fun e w' => e = .returned (.bool true) ∧ Below w3.heap.size w3 w') := Lib.hid (fun w3 h3 => by
        have := vacant_any h3 HK.out HI.out.1 HI.out.2 HI0.out.1 HI0.out.2
        rw [HS.out.fp s p HI.out.1 HI.out.2, hat] at this
        exact this)
      have HST : Hid (∀ w3, Sp.Sep W w3 J → Calls Try.prog 25 #[.pointer (some ⟨t.g, 0, none⟩), .string r.i, .agg #[.int .i64 s, .int .i64 p]] w3 fun e w' => e = .returned (.tuple #[]) ∧ ∃ t5 : St, t5.g = t.g ∧ Stn t5 (x.S ++ [⟨r.i, s, p⟩]) noX ∧ Ent t5 x.L ∧ Sp.Sep W w' (J.set k (mI t5))) := Lib.hid (fun w3 h3 => stand_x h3 HK.out HG.out HS.out HE.out (by have := HRF.out.i; unfold maxLen; omega) HI.out.1 HI.out.2 hat)
      clear hat hl HNO
      go_upto_region 4 with (first
        | (go_at_call 23; refine HOF.out.mono ?_; rintro e3 w3 ⟨rfl, hb3⟩; have H3 := Lib.hid (H2.out.later hb3); clear hb3 c0 c1 c2 c3 c4 c5 c6 u0 u1;
           have c0 : w3.cell? ⟨n, 0, none⟩ = some (.int .u64 r.l) := (loc_blk H3.out HR.out).cell 0
           have c1 : w3.cell? ⟨n, 1, none⟩ = some (.int .u32 r.e) := (loc_blk H3.out HR.out).cell 1
           have c2 : w3.cell? ⟨n, 2, none⟩ = some (.int .i64 r.k) := (loc_blk H3.out HR.out).cell 2
           have c3 : w3.cell? ⟨n, 3, none⟩ = some (.int .u64 r.v) := (loc_blk H3.out HR.out).cell 3
           have c4 : w3.cell? ⟨n, 4, none⟩ = some (.int .u64 r.d) := (loc_blk H3.out HR.out).cell 4
           have c5 : w3.cell? ⟨n, 5, none⟩ = some (.string r.i) := (loc_blk H3.out HR.out).cell 5
           have c6 : w3.cell? ⟨n, 6, none⟩ = some (.string r.a) := (loc_blk H3.out HR.out).cell 6
           have u0 : w3.cell? ⟨n + 1, 0, none⟩ = some (.int .i64 s) := (loc_blk H3.out HL.out).cell 0
           have u1 : w3.cell? ⟨n + 1, 1, none⟩ = some (.int .i64 p) := (loc_blk H3.out HL.out).cell 1
           skip)
        | (go_at_call 24; refine (HV.out _ H3.out).mono ?_; rintro e4 w4 ⟨rfl, hb4⟩; have H4 := Lib.hid (H3.out.later hb4); clear hb4 c0 c1 c2 c3 c4 c5 c6 u0 u1;
           have c0 : w4.cell? ⟨n, 0, none⟩ = some (.int .u64 r.l) := (loc_blk H4.out HR.out).cell 0
           have c1 : w4.cell? ⟨n, 1, none⟩ = some (.int .u32 r.e) := (loc_blk H4.out HR.out).cell 1
           have c2 : w4.cell? ⟨n, 2, none⟩ = some (.int .i64 r.k) := (loc_blk H4.out HR.out).cell 2
           have c3 : w4.cell? ⟨n, 3, none⟩ = some (.int .u64 r.v) := (loc_blk H4.out HR.out).cell 3
           have c4 : w4.cell? ⟨n, 4, none⟩ = some (.int .u64 r.d) := (loc_blk H4.out HR.out).cell 4
           have c5 : w4.cell? ⟨n, 5, none⟩ = some (.string r.i) := (loc_blk H4.out HR.out).cell 5
           have c6 : w4.cell? ⟨n, 6, none⟩ = some (.string r.a) := (loc_blk H4.out HR.out).cell 6
           have u0 : w4.cell? ⟨n + 1, 0, none⟩ = some (.int .i64 s) := (loc_blk H4.out HL.out).cell 0
           have u1 : w4.cell? ⟨n + 1, 1, none⟩ = some (.int .i64 p) := (loc_blk H4.out HL.out).cell 1
           skip)
        | (go_at_call 25; refine (HST.out _ H4.out).mono ?_; rintro e5 w5 ⟨rfl, t5, hg5, hS5, hE5, h5⟩; have H5 := Lib.hid h5; have HS5 := Lib.hid hS5; have HE5 := Lib.hid hE5; have HG5 := Lib.hid hg5; clear h5 hS5 hE5 hg5 c0 c1 c2 c3 c4 c5 c6 u0 u1))
      clear HOF HV HST HS HE
      have hk5 := set_at HK.out (mI t5)
      have hlt5 := (List.getElem?_eq_some_iff.1 HKK.out).1
      have hr5 := set_far HR.out (Nat.ne_of_lt hlt5) (mI t5)
      have hl5 := set_far HL.out (Nat.ne_of_lt (Nat.lt_succ_of_lt hlt5)) (mI t5)
      have x3 := ix3 H5.out hk5
      rw [HG5.out] at x3
      have hi : r.i.size ≤ maxLen := by have := HRF.out.i; unfold maxLen; omega
      have hlk0 := fun n => (n_look (w := w5.drewN n) (H5.out.later (below_drewN (Below.refl _ _) n)) hk5 hi).2
      obtain ⟨v0, v1, v2, v3, v4, v5, hE0, hO⟩ : ∃ v0 v1 v2 v3 v4 v5, enO (t5.nw r.i.toList) = #[.int .u64 v0, .int .u64 v1, .bool v2, .int .i64 v3, .int .i64 v4, .int .i64 v5] ∧ older x r = decide (r.v < v0) := by
        rw [HE5.out.nw]
        unfold older fndX
        show ∃ v0 v1 v2 v3 v4 v5, enO (x.L.find? fun a => decide (a.key = r.i.toList)) = _ ∧ (match x.L.find? fun a => decide (a.key = r.i.toList) with | some q => decide (r.v < q.v) | none => false) = decide (r.v < v0)
        cases x.L.find? fun a => decide (a.key = r.i.toList) with
        | none =>
          refine ⟨0, 0, false, 0, 0, 0, rfl, ?_⟩
          have := HRF.out.v
          exact (decide_eq_false (by omega)).symm
        | some q => exact ⟨_, _, _, _, _, _, rfl, rfl⟩
      have hlk : ∀ n : Nat, (Instr.lookup 56 (.map (some t5.mn)) (.string r.i) false).run Try.prog (w5.drewN n) = .ok (.agg #[.int .u64 v0, .int .u64 v1, .bool v2, .int .i64 v3, .int .i64 v4, .int .i64 v5]) (w5.drewN n) := fun n => by
        rw [← hE0]
        exact hlk0 n
      have c0 : w5.cell? ⟨n, 0, none⟩ = some (.int .u64 r.l) := (loc_blk H5.out hr5).cell 0
      have c1 : w5.cell? ⟨n, 1, none⟩ = some (.int .u32 r.e) := (loc_blk H5.out hr5).cell 1
      have c2 : w5.cell? ⟨n, 2, none⟩ = some (.int .i64 r.k) := (loc_blk H5.out hr5).cell 2
      have c3 : w5.cell? ⟨n, 3, none⟩ = some (.int .u64 r.v) := (loc_blk H5.out hr5).cell 3
      have c4 : w5.cell? ⟨n, 4, none⟩ = some (.int .u64 r.d) := (loc_blk H5.out hr5).cell 4
      have c5 : w5.cell? ⟨n, 5, none⟩ = some (.string r.i) := (loc_blk H5.out hr5).cell 5
      have c6 : w5.cell? ⟨n, 6, none⟩ = some (.string r.a) := (loc_blk H5.out hr5).cell 6
      have u0 : w5.cell? ⟨n + 1, 0, none⟩ = some (.int .i64 s) := (loc_blk H5.out hl5).cell 0
      have u1 : w5.cell? ⟨n + 1, 1, none⟩ = some (.int .i64 p) := (loc_blk H5.out hl5).cell 1
      have HO := Lib.hid hO
      have HD : Hid (∀ w' y, Sp.Sep W w' (J.set k y) → Sp.Sep W w' (items.set k y)) := Lib.hid (fun w' y h9 => by
        rw [← HJ.out, app_set (app_at (set_at HKK.out _)), app_set (set_at HKK.out _), List.set_set] at h9
        exact loc_drop (loc_drop h9))
      have HAX : Hid (addX x r s p = ⟨x.S ++ [⟨r.i, s, p⟩], if older x r then x.L else setL (entOf r s p) x.L⟩ ∧ addB x r s p = !(older x r)) := Lib.hid (by
        unfold addX addB
        rw [HM.out, if_pos rfl]
        exact ⟨rfl, rfl⟩)
      have hfd : ∀ w : World, (Instr.field 34 (.agg #[.int .u64 v0, .int .u64 v1, .bool v2, .int .i64 v3, .int .i64 v4, .int .i64 v5]) 0).run Try.prog w = .ok (.int .u64 v0) w := fun _ => by kernel_rfl
      clear hlk0 hE0 hO hk5 hr5 hl5 hi
      go_quiet (fail)
      clear hfd
      have H6 := Lib.hid (H5.out.later (below_drewN (Below.refl _ _) nq))
      clear x3 hlk H5 c0 c1 c2 c3 c4 c5 c6 u0 u1
      generalize w5.drewN nq = w6 at *
      by_cases hv : r.v < v0
      · have ho : older x r = true := by rw [HO.out]; exact decide_eq_true hv
        have HFIN : Hid (Sp.Sep W w6 (items.set k (XI t.g (addX x r s p))) ∧ addB x r s p = false) := Lib.hid (by
          rw [HAX.out.1, HAX.out.2, ho, if_pos rfl]
          have q := XI_shut (HD.out _ _ H6.out) (set_at HKK.out _) HS5.out HE5.out
          rw [List.set_set, HG5.out] at q
          exact ⟨q, rfl⟩)
        clear ho
        go_wp2_with fail
        go_ret
        rw [HFIN.out.2]
        exact ⟨rfl, HFIN.out.1⟩
      · have ho : older x r = false := by rw [HO.out]; exact decide_eq_false hv
        have hr5 := set_far HR.out (Nat.ne_of_lt hlt5) (mI t5)
        have hl5 := set_far HL.out (Nat.ne_of_lt (Nat.lt_succ_of_lt hlt5)) (mI t5)
        have c0 : w6.cell? ⟨n, 0, none⟩ = some (.int .u64 r.l) := (loc_blk H6.out hr5).cell 0
        have c1 : w6.cell? ⟨n, 1, none⟩ = some (.int .u32 r.e) := (loc_blk H6.out hr5).cell 1
        have c2 : w6.cell? ⟨n, 2, none⟩ = some (.int .i64 r.k) := (loc_blk H6.out hr5).cell 2
        have c3 : w6.cell? ⟨n, 3, none⟩ = some (.int .u64 r.v) := (loc_blk H6.out hr5).cell 3
        have c4 : w6.cell? ⟨n, 4, none⟩ = some (.int .u64 r.d) := (loc_blk H6.out hr5).cell 4
        have c5 : w6.cell? ⟨n, 5, none⟩ = some (.string r.i) := (loc_blk H6.out hr5).cell 5
        have c6 : w6.cell? ⟨n, 6, none⟩ = some (.string r.a) := (loc_blk H6.out hr5).cell 6
        have u0 : w6.cell? ⟨n + 1, 0, none⟩ = some (.int .i64 s) := (loc_blk H6.out hl5).cell 0
        have u1 : w6.cell? ⟨n + 1, 1, none⟩ = some (.int .i64 p) := (loc_blk H6.out hl5).cell 1
        have hi : r.i.size ≤ maxLen := by have := HRF.out.i; unfold maxLen; omega
        have wi1 : IntKind.i64.wrap (31 + (r.i.size : Int)) = 31 + (r.i.size : Int) := IntWalk.i64_in _ (by have := HRF.out.i; omega)
        have wi2 : IntKind.i64.wrap (31 + (r.i.size : Int) + (r.a.size : Int)) = 31 + (r.i.size : Int) + (r.a.size : Int) := IntWalk.i64_in _ (by have := HRF.out.i; have := HRF.out.a; omega)
        have hG := HG.out
        have hlen := hG.m
        have hz : ∀ b ∈ x.L, 0 ≤ b.z ∧ b.z ≤ 191 := fun b hb => by have := hG.z b hb; omega
        have hst : ∀ a ∈ x.L, ∃ c ∈ x.S ++ [⟨r.i, s, p⟩], c.s = a.s := fun a ha => by
          obtain ⟨c, hc, _, h2, _⟩ := hG.st a ha
          exact ⟨c, List.mem_append_left _ hc, h2⟩
        have hq : ∀ a ∈ x.L, (t5.q a.s).isSome = true := fun a ha => by
          obtain ⟨c, hc, h2⟩ := hst a ha
          exact (HS5.out.q _ id).2 ⟨c, hc, h2⟩
        have hqs : (t5.q s).isSome = true := (HS5.out.q _ id).2 ⟨⟨r.i, s, p⟩, by simp, rfl⟩
        have hrg : ∀ a ∈ x.L, I64 a.s := fun a ha => by
          obtain ⟨c, hc, h2⟩ := hst a ha
          rw [← h2]
          exact (HS5.out.rg c hc).1
        have hE2 := HE5.out.unset hG.o r.i.toList hq
        have hF1 : ∀ b, t5.nw r.i.toList = some b → Fine t5 b (-1) := fun b hb => by
          rw [HE5.out.nw] at hb
          have hb' := (fnd_some (x := x) hb).1
          exact fine_gen HE5.out (by omega) hz b (hq b hb') (hrg b hb') (hz b hb') _ (.inr rfl)
        have hez : 0 ≤ (entOf r s p).z ∧ (entOf r s p).z ≤ 191 := by
          have := HRF.out.i
          have := HRF.out.a
          show 0 ≤ (31 : Int) + (r.i.size : Nat) + (r.a.size : Nat) ∧ (31 : Int) + (r.i.size : Nat) + (r.a.size : Nat) ≤ 191
          omega
        have hF2 : Fine (unsT t5 r.i.toList) (entOf r s p) 1 := by
          refine fine_gen hE2 (Nat.le_trans (List.length_filter_le _ _) (by omega)) (fun b hb => hz b (List.mem_filter.1 hb).1) (entOf r s p) ?_ HI.out.1 hez _ (.inl rfl)
          rw [(uns_g t5 r.i.toList).2.1]
          exact hqs
        have hsupp : ∀ k, t5.nw k ≠ none → k ∈ x.L.map Nw.key := fun k hk => by
          rw [HE5.out.nw] at hk
          cases hf : x.L.find? fun a => decide (a.key = k) with
          | none => exact absurd hf hk
          | some b =>
            obtain ⟨h1, h2⟩ := fnd_some (x := x) hf
            exact List.mem_map.2 ⟨b, h1, h2⟩
        have hset := set_any H6.out (set_at HK.out (mI t5)) hi hF1 (entOf r s p) hF2 hsupp (by rw [List.length_map]; omega)
        rw [HG5.out, List.set_set] at hset
        have hES : Ent (setT t5 r.i.toList (entOf r s p)) (setL (entOf r s p) x.L) := HE5.out.set hG.o (entOf r s p) hq hqs
        have hSS := HS5.out.set r.i.toList (entOf r s p)
        have HFIN : Hid ((∀ w', Sp.Sep W w' (J.set k (mI (setT t5 r.i.toList (entOf r s p)))) → Sp.Sep W w' (items.set k (XI t.g (addX x r s p)))) ∧ addB x r s p = true) := Lib.hid ⟨fun w' h9 => by
          rw [HAX.out.1, ho, if_neg (by decide)]
          have q := XI_shut (HD.out _ _ h9) (set_at HKK.out _) hSS hES
          rw [List.set_set, (set_g t5 _ _).1, HG5.out] at q
          exact q, by rw [HAX.out.2, ho]; rfl⟩
        change Calls Try.prog 20 #[.pointer (some ⟨t.g, 0, none⟩), .string r.i, .agg #[.int .u64 r.v, .int .u64 r.d, .bool (r.k == 1), .int .i64 (31 + (r.i.size : Int) + (r.a.size : Int)), .int .i64 s, .int .i64 p]] w6 _ at hset
        have HSET := Lib.hid hset
        clear hr5 hl5 hi hG hlen hz hst hq hqs hrg hE2 hF1 hez hF2 hsupp hset hES hSS ho
        go_wp2_with (go_at_call 20; refine HSET.out.mono ?_; rintro e8 w8 ⟨rfl, h8⟩; have H8 := Lib.hid h8; clear h8)
        go_ret
        rw [HFIN.out.2]
        exact ⟨rfl, HFIN.out.1 _ H8.out⟩
  · have hl' : isL r = false := by simpa using hl
    have hof := ofs_any r X
    rw [hl'] at hof
    have HOF := Lib.hid hof
    have HM : Hid (addB x r s p = false ∧ addX x r s p = x) := Lib.hid (by
      have hm : mayX x r s p = false := by unfold mayX; rw [hl']; rfl
      unfold addB addX
      rw [hm]
      exact ⟨rfl, rfl⟩)
    clear hof hl hl'
    go_wp2_with (first
      | (go_at_call 23; refine HOF.out.mono ?_; rintro e3 w3 ⟨rfl, hb3⟩; have HB3 := Lib.hid hb3; clear hb3))
    go_ret
    have q := HNO.out HM.out.1 HM.out.2 _ HB3.out
    exact ⟨by rw [← q.1]; rfl, q.2⟩
end
end Go.Proofs.Ytjdkgkllgapgjaa.Px
