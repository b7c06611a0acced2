/- For all inputs the statement VictimRest about victim returns true, and changes nothing. Conditions: none. -/
import Derived.Test.YtgepkomomjmmhaaViK
import Derived.Test.YtgepkomomjmmhaaViF
import Derived.Test.YtgepkomomjmmhaaClass
import Derived.Test.YtgepkomomjmmhaaViI
import Derived.ProofKit
import Derived.OpenShut
import Derived.ShutString
import Derived.SizedLaws
namespace Go.Proofs.Ytgepkomomjmmhaa.victimRest
open Go.ChangeShapes Go.WideShapes Go.ChangeAt Go.RowKit Go.Lib Go.MapKept
open Go.ChangeMaps (open_string shut_string)
set_option linter.unusedVariables false
set_option linter.unusedSimpArgs false

theorem own : ownKnob Try.prog.godebug = none := by kernel_rfl
theorem laid : laidOutB Try.prog = true := by kernel_rfl

set_option maxRecDepth 100000
open Vi Sp
set_option maxHeartbeats 64000000 in
theorem walk (P : Prg) (A : Option Addr) (n c : Nat) (L : List Cd) (x : Cd) (room gone : Int) (w : World) (hL : CR w A n L) (hn : n ≤ maxLen) (hp : n ≤ c) (ho : ∀ x ∈ L, CIn x) (hx : CIn x) (h1 : I64 room) (h2 : I64 gone) :
    Calls Try.prog 9 #[.slice A n c, .agg (cdA5 x), .agg #[.int .i64 room, .int .i64 gone]] w fun e w' => e = .returned (.bool true) ∧ Below w.heap.size w w' := by
  obtain ⟨m, M, hM⟩ := cut16 hL hp ho
  have HM := Lib.hid hM
  have hmin := hM.e.symm
  have hmc : (m : Int) ≤ (c : Int) := by have := hM.cap; omega
  have hm0 : (0 : Int) ≤ (m : Int) := by omega
  have HLEN := Lib.hid hM.r.len
  have HPK : Hid (∀ X, Below w.heap.size w X → Calls Try.prog 13 #[.slice A m c, .int .i64 room] X fun e w' => e = .returned (.int .i64 (pick M room)) ∧ Below X.heap.size X w') := Lib.hid (fun X hX => P.pk A m c M room X (HM.out.r.later hX) (by have := HM.out.le; omega) HM.out.cap HM.out.ok h1)
  have HP := Lib.hid P
  have HR := Lib.hid h1
  have HFX := Lib.hid (fun X => fixed_any P X)
  have HXI := Lib.hid hx
  have HG := Lib.hid h2
  have HPA := Lib.hid (show ∃ z, pick M room = z from ⟨_, rfl⟩)
  obtain ⟨at', hat'⟩ := HPA.out
  have HAT := Lib.hid hat'
  rw [hat'] at HPK
  have ha1 : -1 ≤ at' := by rw [← hat']; exact pick_ge _ _
  have ha2 : at' < (m : Int) := by rw [← hat', HLEN.out]; exact pick_lt _ _
  have da1 : decide (at' < -1) = false := decide_eq_false (by omega)
  have da2 : decide ((m : Int) ≤ at') = false := decide_eq_false (by omega)
  obtain ⟨W, hW⟩ : ∃ W, (w.alloc (.cells (cdA5 x) 25)).alloc (.cells #[.int .i64 room, .int .i64 gone] 46) = W := ⟨_, rfl⟩
  have HB := Lib.hid (show Below w.heap.size w W by rw [← hW]; exact ((Below.refl _ _).alloc (Nat.le_refl _) _).alloc (by simp) _)
  have BX : Hid (Sp.Blk W w.heap.size 25 (cdA5 x)) := Lib.hid (by rw [← hW]; exact (Sp.Blk.new w 25 (cdA5 x)).later (below1 _ _))
  have BN : Hid (Sp.Blk W (w.heap.size + 1) 46 #[.int .i64 room, .int .i64 gone]) := Lib.hid (by rw [← hW]; exact Sp.Blk.at_ _ _ _ (by simp))
  clear P hL hn hp ho hM h1 h2 hx hat' HPA
  have n0 : ∀ jj : In (fun X => Below W.heap.size W X), jj.W.cell? ⟨w.heap.size + 1, 0, none⟩ = some (.int .i64 room) := fun jj => ((BN.out.later jj.h).cell 0).trans rfl
  have n1 : ∀ jj : In (fun X => Below W.heap.size W X), jj.W.cell? ⟨w.heap.size + 1, 1, none⟩ = some (.int .i64 gone) := fun jj => ((BN.out.later jj.h).cell 1).trans rfl
  go_enter Try.func9, Try.ntmps9
  go_upto_region 2 with fail
  clear hmin hW
  have I : Below W.heap.size W { W with drawn := W.drawn + 1 } := (Below.refl _ _).drew
  have hne : Nonempty (In (fun X => Below W.heap.size W X)) := ⟨⟨_, I⟩⟩
  refine region_class (fun X => Below W.heap.size W X) (by kernel_rfl) (by kernel_rfl) I ?_
  repeat (go_big_quiet_step (fail))
  refine wpQuiet_nil ?_
  rintro _ ⟨jj, rfl⟩
  have BX2 := Lib.hid (BX.out.later jj.h)
  have HB2 := Lib.hid (HB.out.trans (jj.h.mono HB.out.size))
  clear I hne n0 n1 BX BN HB
  generalize jj.W = W1 at *
  clear jj
  have HS0 : Hid (∀ X, Below W1.heap.size W1 X → Sp.Sep W1 (X.alloc (.cells #[] 25)) [rowS 25 5 (.slice (some ⟨X.heap.size, 0, none⟩) 0 0) 0 []]) := Lib.hid (fun X hX => rows_lit (Sp.Sep.nil hX) 25 5)
  have HCM := Lib.hid (HM.out.r.later HB2.out)
  have HPK2 : Hid (∀ X, Below W1.heap.size W1 X → Calls Try.prog 13 #[.slice A m c, .int .i64 room] X fun e w' => e = .returned (.int .i64 at') ∧ Below X.heap.size X w') := Lib.hid (fun X hX => HPK.out X (HB2.out.trans (hX.mono HB2.out.size)))
  have hm1000 : 0 + m < 1000 := by have := HM.out.le; omega
  have HM9 : Hid (m < 900) := Lib.hid (by have := HM.out.le; omega)
  clear HPK
  go_upto_region 7 with (first
    | (go_at_call 13; refine (HPK2.out _ (Below.refl _ _)).mono ?_; rintro e5 w5 ⟨rfl, hb5⟩; have H5 := Lib.hid hb5; clear hb5)
    | (with_reducible refine wp_append_r rfl (.tmp 33) (.tmp 34) rfl rfl A m c rfl (HS0.out w5 H5.out) 0 rfl ((HCM.out.later H5.out).later (below1 w5 _)) hm1000 ?_; intro g1 p1 w6 hs6))
  have H6 : Hid (Sp.Sep W1 w6 [rowS 25 5 (.slice (some ⟨g1, 0, none⟩) m p1) m (M.flatMap cdC)]) := Lib.hid (by simpa using hs6)
  have x0 := (CC.blk (BX2.out.later H6.out.below)).c0
  have x1 := (CC.blk (BX2.out.later H6.out.below)).c1
  have x2 := (CC.blk (BX2.out.later H6.out.below)).c2
  have x3 := (CC.blk (BX2.out.later H6.out.below)).c3
  have x4 := (CC.blk (BX2.out.later H6.out.below)).c4
  obtain ⟨v7, w7, hap, S7⟩ := rows_pushS (k := 0) (cs := cdC x) H6.out rfl Try.underlying22 cand_infos rfl (by decide) (by decide) (by have := HM9.out; omega) rfl (cd_one _)
  have H7 : Hid (Sp.Sep W1 w7 [rowS 25 5 v7 (m + 1) ((M ++ [x]).flatMap cdC)]) := Lib.hid (by
    rw [List.flatMap_append, List.flatMap_cons, List.flatMap_nil, List.append_nil]
    exact S7)
  replace hap : (Builtin.append_ #[22, 22] 22 #[.slice (some ⟨g1, 0, none⟩) m p1, .slice (some ⟨w6.heap.size, 0, none⟩) 1 1]).run Try.prog (w6.alloc (.cells #[.int .i64 x.s, .int .i64 x.l, .int .i64 x.v, .int .i64 x.n, .int .u64 x.a] 25)) = .ok v7 w7 := hap
  clear S7 hs6 HS0
  go_upto_region 8 with (with_reducible refine wpList_append_run (w6.alloc (.cells #[.int .i64 x.s, .int .i64 x.l, .int .i64 x.v, .int .i64 x.n, .int .u64 x.a] 25)) rfl (.tmp 36) (.tmp 38) 22 22 rfl (.slice (some ⟨g1, 0, none⟩) m p1) (.slice (some ⟨w6.heap.size, 0, none⟩) 1 1) rfl rfl v7 w7 hap ?_)
  obtain ⟨A7, p7, rfl⟩ := rows_slice H7.out (k := 0) rfl
  have HMO := Lib.hid (CR.of_row H7.out (k := 0) rfl (by simp [HLEN.out]))
  have hrm := rows_room H7.out (k := 0) rfl
  have H7B := Lib.hid H7.out.below
  have HPM : Hid (∀ X, Below w7.heap.size w7 X → Calls Try.prog 13 #[.slice A7 (m + 1) p7, .int .i64 room] X fun e w' => e = .returned (.int .i64 (pick (M ++ [x]) room)) ∧ Below X.heap.size X w') := Lib.hid (fun X hX => HP.out.pk A7 (m + 1) p7 _ room X (HMO.out.later hX) (by have := HM.out.le; omega) hrm (fun y hy => by
    rcases List.mem_append.1 hy with h | h
    · exact HM.out.ok y h
    · rw [List.mem_singleton.1 h]; exact HXI.out) HR.out)
  clear x0 x1 x2 x3 x4 hap hrm H6 H7
  have hI : ∀ jj : In (fun X => Below w7.heap.size w7 X), Below W1.heap.size W1 jj.W := fun jj => H7B.out.trans (jj.h.mono H7B.out.size)
  by_cases hneg : at' < 0
  · have dn : decide ((0 : Int) ≤ at') = false := decide_eq_false (by omega)
    clear BX2 HPM
    go_upto_region 8 with fail
    have I : Below w7.heap.size w7 { w7 with drawn := w7.drawn + 1 } := (Below.refl _ _).drew
    have hne : Nonempty (In (fun X => Below w7.heap.size w7 X)) := ⟨⟨_, I⟩⟩
    refine region_class (fun X => Below w7.heap.size w7 X) (by kernel_rfl) (by kernel_rfl) I ?_
    repeat (go_big_quiet_step (fail))
    refine wpQuiet_nil ?_
    rintro _ ⟨jj, rfl⟩
    have H8 := Lib.hid (hI jj)
    clear I hne hI 
    generalize jj.W = X at *
    clear jj
    by_cases g0 : gone < 0
    · have dg0 : decide (gone < 0) = true := decide_eq_true g0
      go_wp2_with (go_at_call 19; refine (HFX.out _).mono ?_; rintro e9 w9 ⟨rfl, hb9⟩; have H9 := Lib.hid (H8.out.trans (hb9.mono H8.out.size)); clear hb9)
      go_ret
      exact ⟨rfl, HB2.out.trans (H9.out.mono HB2.out.size)⟩
    have dg0 : decide (gone < 0) = false := decide_eq_false g0
    by_cases g1 : (m : Int) ≤ gone
    · have dg1 : decide ((m : Int) ≤ gone) = true := decide_eq_true g1
      go_wp2_with (go_at_call 19; refine (HFX.out _).mono ?_; rintro e9 w9 ⟨rfl, hb9⟩; have H9 := Lib.hid (H8.out.trans (hb9.mono H8.out.size)); clear hb9)
      go_ret
      exact ⟨rfl, HB2.out.trans (H9.out.mono HB2.out.size)⟩
    have dg1 : decide ((m : Int) ≤ gone) = false := decide_eq_false g1
    obtain ⟨q, hq⟩ : ∃ q : Nat, gone = (q : Int) := ⟨gone.toNat, by omega⟩
    subst hq
    by_cases g2 : (q : Int) = at'
    · have dg2 : ((q : Int) == at') = true := by simp [g2]
      go_wp2_with (go_at_call 19; refine (HFX.out _).mono ?_; rintro e9 w9 ⟨rfl, hb9⟩; have H9 := Lib.hid (H8.out.trans (hb9.mono H8.out.size)); clear hb9)
      go_ret
      exact ⟨rfl, HB2.out.trans (H9.out.mono HB2.out.size)⟩
    have dg2 : ((q : Int) == at') = false := by simp [g2]
    have hqm : (q : Int) < (m : Int) := by omega
    have HQM : Hid (q < m) := Lib.hid (by omega)
    have hqc : (q : Int) ≤ (c : Int) := by omega
    have hq0 : (0 : Int) ≤ (q : Int) := by omega
    have dq0 : decide ((m : Int) ≤ (q : Int)) = false := decide_eq_false (by omega)
    have dq1 : decide (m ≤ q) = false := decide_eq_false (by omega)
    have wq : IntKind.i64.wrap ((q : Int) + 1) = (q : Int) + 1 := IntWalk.i64_in _ (by have := HM9.out; omega)
    have hq1c : (q : Int) + 1 ≤ (m : Int) := by omega
    have hq1d : (0 : Int) ≤ (q : Int) + 1 := by omega
    have htn : ((q : Int) + 1).toNat = q + 1 := by omega
    have wat : IntKind.i64.wrap (at' - 1) = at' - 1 := IntWalk.i64_in _ (by have := HM9.out; omega)
    have hpw := pick_without (M := M) (room := room) (q := q) (by have := HLEN.out; omega) (by rw [HAT.out]; exact fun e => g2 e.symm)
    rw [HAT.out] at hpw
    obtain ⟨R9, hR9⟩ : ∃ z, pick (without M q) room = z := ⟨_, rfl⟩
    rw [hR9] at hpw
    have HR9 := Lib.hid hR9
    have HPW := Lib.hid hpw
    clear hR9 hpw
    have HPL : Hid (∀ (A9 : Option Addr) (p9 k9 : Nat) X, k9 = m - 1 → CR X A9 k9 (without M q) → k9 ≤ p9 → Calls Try.prog 13 #[.slice A9 k9 p9, .int .i64 room] X fun e w' => e = .returned (.int .i64 R9) ∧ Below X.heap.size X w') := Lib.hid (fun A9 p9 k9 X hk h h2 => by
      have h3 := HP.out.pk A9 k9 p9 _ room X h (by have := HM.out.le; omega) h2 (fun y hy => by
        rcases List.mem_append.1 hy with h | h
        · exact HM.out.ok y (List.mem_of_mem_take h)
        · exact HM.out.ok y (List.mem_of_mem_drop h)) HR.out
      rw [HR9.out] at h3
      exact h3)
    have HE8 : Hid (Sp.Sep X (X.alloc (.cells #[] 25)) [rowS 25 5 (.slice (some ⟨X.heap.size, 0, none⟩) 0 0) 0 []]) := Lib.hid (rows_lit (Sp.Sep.nil (Below.refl _ _)) 25 5)
    have HCX := Lib.hid (HCM.out.later H8.out)
    have HCQ : Hid (CR (X.alloc (.cells #[] 25)) A q (M.take q)) := Lib.hid ((HCX.out.cut q (by have := HQM.out; omega)).later (below1 X _))
    have hq1000 : 0 + q < 1000 := by have := HM9.out; omega
    go_upto_region 13 with (with_reducible refine wp_append_r rfl (.tmp 72) (.tmp 75) rfl rfl A q c rfl HE8.out 0 rfl HCQ.out hq1000 ?_; intro g8 p8 w8 hs8)
    have HL1 : Hid (Sp.Sep X w8 [rowS 25 5 (.slice (some ⟨g8, 0, none⟩) q p8) q ((M.take q).flatMap cdC)]) := Lib.hid (by simpa using hs8)
    clear hs8 HE8 HCQ hq1000
    have hsum : q + (m - (q + 1)) < 1000 := by have := HM9.out; omega
    obtain ⟨g, o, eA, _⟩ := HCX.out.rc (by omega)
    subst eA
    have HREST : Hid (∀ (A9 : Option Addr) p9 k9 w9, k9 = m - 1 → Sp.Sep X w9 [rowS 25 5 (.slice A9 k9 p9) k9 ((M.take q).flatMap cdC ++ (M.drop (q + 1)).flatMap cdC)] → CR w9 A9 k9 (without M q) ∧ k9 ≤ p9 ∧ Below W1.heap.size W1 w9) := Lib.hid (fun A9 p9 k9 w9 hk h => by
      rw [← List.flatMap_append] at h
      exact ⟨CR.of_row h (k := 0) rfl (by rw [without_len (by have := HLEN.out; omega)]; have := HLEN.out; omega), rows_room h (k := 0) rfl, H8.out.trans (h.below.mono H8.out.size)⟩)
    by_cases hcap : c = q + 1
    · have hcc : (c : Int) = (q : Int) + 1 := by omega
      obtain rfl : m = q + 1 := by omega
      have HDR : M.drop (q + 1) = [] := List.drop_eq_nil_of_le (by have := HLEN.out; omega)
      have HNC : Hid (CR w8 (some ⟨g, o, none⟩) 0 []) := Lib.hid (CR.nil _ _)
      have hz : q + 0 < 1000 := by omega
      go_upto_region 14 with (with_reducible refine wp_append_r rfl (.tmp 77) (.tmp 81) rfl rfl (some ⟨g, o, none⟩) 0 0 (by simp [Act.eval]) HL1.out 0 rfl HNC.out hz ?_; intro g9 p9 w9 hs9)
      have HK9 : Hid (q = q + 1 - 1) := Lib.hid (by omega)
      have HR9B := Lib.hid (HREST.out (some ⟨g9, 0, none⟩) p9 q w9 HK9.out (by rw [HDR]; simpa using hs9))
      clear hz HDR HNC HREST
      have HC9 := Lib.hid (HPL.out _ p9 q w9 HK9.out HR9B.out.1 HR9B.out.2.1)
      clear HPL hs9
      by_cases hqa : (q : Int) < at'
      · have dqa : decide ((q : Int) < at') = true := decide_eq_true hqa
        have hpw := HPW.out
        rw [if_pos hqa] at hpw
        subst hpw
        go_wp2_with (first
          | (go_at_call 13; with_reducible refine HC9.out.mono ?_; rintro e7 w10 ⟨rfl, hb7⟩; have H10 := Lib.hid (HR9B.out.2.2.trans (hb7.mono HR9B.out.2.2.size)); clear hb7)
          | (go_at_call 19; refine (HFX.out _).mono ?_; rintro e9 w9 ⟨rfl, hb9⟩; have H9 := Lib.hid (H10.out.trans (hb9.mono H10.out.size)); clear hb9))
        go_ret
        exact ⟨rfl, HB2.out.trans (H9.out.mono HB2.out.size)⟩
      · have dqa : decide ((q : Int) < at') = false := decide_eq_false hqa
        have hpw := HPW.out
        rw [if_neg hqa] at hpw
        subst hpw
        go_wp2_with (first
          | (go_at_call 13; with_reducible refine HC9.out.mono ?_; rintro e7 w10 ⟨rfl, hb7⟩; have H10 := Lib.hid (HR9B.out.2.2.trans (hb7.mono HR9B.out.2.2.size)); clear hb7)
          | (go_at_call 19; refine (HFX.out _).mono ?_; rintro e9 w9 ⟨rfl, hb9⟩; have H9 := Lib.hid (H10.out.trans (hb9.mono H10.out.size)); clear hb9))
        go_ret
        exact ⟨rfl, HB2.out.trans (H9.out.mono HB2.out.size)⟩
    · have hcq : q + 1 < c := by omega
      have HCD := Lib.hid ((HCX.out.rest (q + 1)).later HL1.out.below)
      go_upto_region 14 with (with_reducible refine wp_append_r rfl (.tmp 77) (.tmp 81) rfl rfl (some ⟨g, o + (q + 1) * 5, none⟩) (m - (q + 1)) (c - (q + 1)) rfl HL1.out 0 rfl HCD.out hsum ?_; intro g9 p9 w9 hs9)
      have HK9 : Hid (q + (m - (q + 1)) = m - 1) := Lib.hid (by omega)
      have HR9B := Lib.hid (HREST.out (some ⟨g9, 0, none⟩) p9 (q + (m - (q + 1))) w9 HK9.out hs9)
      clear HREST
      have HC9 := Lib.hid (HPL.out _ p9 (q + (m - (q + 1))) w9 HK9.out HR9B.out.1 HR9B.out.2.1)
      clear HPL hs9
      by_cases hqa : (q : Int) < at'
      · have dqa : decide ((q : Int) < at') = true := decide_eq_true hqa
        have hpw := HPW.out
        rw [if_pos hqa] at hpw
        subst hpw
        go_wp2_with (first
          | (go_at_call 13; with_reducible refine HC9.out.mono ?_; rintro e7 w10 ⟨rfl, hb7⟩; have H10 := Lib.hid (HR9B.out.2.2.trans (hb7.mono HR9B.out.2.2.size)); clear hb7)
          | (go_at_call 19; refine (HFX.out _).mono ?_; rintro e9 w9 ⟨rfl, hb9⟩; have H9 := Lib.hid (H10.out.trans (hb9.mono H10.out.size)); clear hb9))
        go_ret
        exact ⟨rfl, HB2.out.trans (H9.out.mono HB2.out.size)⟩
      · have dqa : decide ((q : Int) < at') = false := decide_eq_false hqa
        have hpw := HPW.out
        rw [if_neg hqa] at hpw
        subst hpw
        go_wp2_with (first
          | (go_at_call 13; with_reducible refine HC9.out.mono ?_; rintro e7 w10 ⟨rfl, hb7⟩; have H10 := Lib.hid (HR9B.out.2.2.trans (hb7.mono HR9B.out.2.2.size)); clear hb7)
          | (go_at_call 19; refine (HFX.out _).mono ?_; rintro e9 w9 ⟨rfl, hb9⟩; have H9 := Lib.hid (H10.out.trans (hb9.mono H10.out.size)); clear hb9))
        go_ret
        exact ⟨rfl, HB2.out.trans (H9.out.mono HB2.out.size)⟩
  · obtain ⟨j, hj⟩ : ∃ j : Nat, at' = (j : Int) := ⟨at'.toNat, by omega⟩
    subst hj
    have dn : decide ((0 : Int) ≤ (j : Int)) = true := decide_eq_true (by omega)
    have hj2 : (j : Int) < (m : Int) := ha2
    obtain ⟨y, hy⟩ : ∃ y, M[j]? = some y := ⟨_, List.getElem?_eq_getElem (by have := HLEN.out; omega)⟩
    obtain ⟨gy, oy, eA, hcy⟩ := HCM.out.rc (by omega)
    subst eA
    have HCY := Lib.hid (hcy j y hy)
    have HYI := Lib.hid (HM.out.ok y (List.mem_of_getElem? hy))
    have EY := Lib.hid (cdA_of hy)
    clear hcy hy
    obtain ⟨bx, hbx⟩ : ∃ bx, w.heap.size = bx := ⟨_, rfl⟩
    have y0 : ∀ jj : In (fun X => Below w7.heap.size w7 X), jj.W.cell? ⟨gy, oy + j * 5, none⟩ = some (.int .i64 y.s) := fun jj => (HCY.out.later (hI jj)).c0
    have y1 : ∀ jj : In (fun X => Below w7.heap.size w7 X), jj.W.cell? ⟨gy, oy + j * 5 + 1, none⟩ = some (.int .i64 y.l) := fun jj => (HCY.out.later (hI jj)).c1
    have y2 : ∀ jj : In (fun X => Below w7.heap.size w7 X), jj.W.cell? ⟨gy, oy + j * 5 + 2, none⟩ = some (.int .i64 y.v) := fun jj => (HCY.out.later (hI jj)).c2
    have y3 : ∀ jj : In (fun X => Below w7.heap.size w7 X), jj.W.cell? ⟨gy, oy + j * 5 + 3, none⟩ = some (.int .i64 y.n) := fun jj => (HCY.out.later (hI jj)).c3
    have y4 : ∀ jj : In (fun X => Below w7.heap.size w7 X), jj.W.cell? ⟨gy, oy + j * 5 + 4, none⟩ = some (.int .u64 y.a) := fun jj => (HCY.out.later (hI jj)).c4
    have x0 : ∀ jj : In (fun X => Below w7.heap.size w7 X), jj.W.cell? ⟨w.heap.size, 0, none⟩ = some (.int .i64 x.s) := fun jj => (CC.blk (BX2.out.later (hI jj))).c0
    have x1 : ∀ jj : In (fun X => Below w7.heap.size w7 X), jj.W.cell? ⟨w.heap.size, 1, none⟩ = some (.int .i64 x.l) := fun jj => (CC.blk (BX2.out.later (hI jj))).c1
    have x2 : ∀ jj : In (fun X => Below w7.heap.size w7 X), jj.W.cell? ⟨w.heap.size, 2, none⟩ = some (.int .i64 x.v) := fun jj => (CC.blk (BX2.out.later (hI jj))).c2
    have x3 : ∀ jj : In (fun X => Below w7.heap.size w7 X), jj.W.cell? ⟨w.heap.size, 3, none⟩ = some (.int .i64 x.n) := fun jj => (CC.blk (BX2.out.later (hI jj))).c3
    have x4 : ∀ jj : In (fun X => Below w7.heap.size w7 X), jj.W.cell? ⟨w.heap.size, 4, none⟩ = some (.int .u64 x.a) := fun jj => (CC.blk (BX2.out.later (hI jj))).c4
    clear hbx
    cases hxy : better x y with
    | true =>
      have CXY : Hid (∀ X, Calls Try.prog 10 #[.agg (cdA5 x), .agg (cdA5 y)] X fun e w' => e = .returned (.bool true) ∧ Below X.heap.size X w') := Lib.hid (fun X => by rw [← hxy]; exact HP.out.bt x y X HXI.out HYI.out)
      clear hxy BX2 HPM
      go_upto_region 8 with fail
      have I : Below w7.heap.size w7 { w7 with drawn := w7.drawn + 1 } := (Below.refl _ _).drew
      have hne : Nonempty (In (fun X => Below w7.heap.size w7 X)) := ⟨⟨_, I⟩⟩
      refine region_class (fun X => Below w7.heap.size w7 X) (by kernel_rfl) (by kernel_rfl) I ?_
      repeat (go_big_quiet_step (first
        | (go_at_call 10; with_reducible exact class_call _ (fun hi => (CXY.out _).mono fun _ _ ⟨he, hb⟩ => ⟨he, hi.trans (hb.mono hi.size)⟩))))
      refine wpQuiet_nil ?_
      rintro _ ⟨jj, rfl⟩
      have H8 := Lib.hid (hI jj)
      clear I hne hI x0 x1 x2 x3 x4 y0 y1 y2 y3 y4
      generalize jj.W = X at *
      clear jj
      by_cases g0 : gone < 0
      · have dg0 : decide (gone < 0) = true := decide_eq_true g0
        go_wp2_with (go_at_call 19; refine (HFX.out _).mono ?_; rintro e9 w9 ⟨rfl, hb9⟩; have H9 := Lib.hid (H8.out.trans (hb9.mono H8.out.size)); clear hb9)
        go_ret
        exact ⟨rfl, HB2.out.trans (H9.out.mono HB2.out.size)⟩
      have dg0 : decide (gone < 0) = false := decide_eq_false g0
      by_cases g1 : (m : Int) ≤ gone
      · have dg1 : decide ((m : Int) ≤ gone) = true := decide_eq_true g1
        go_wp2_with (go_at_call 19; refine (HFX.out _).mono ?_; rintro e9 w9 ⟨rfl, hb9⟩; have H9 := Lib.hid (H8.out.trans (hb9.mono H8.out.size)); clear hb9)
        go_ret
        exact ⟨rfl, HB2.out.trans (H9.out.mono HB2.out.size)⟩
      have dg1 : decide ((m : Int) ≤ gone) = false := decide_eq_false g1
      obtain ⟨q, hq⟩ : ∃ q : Nat, gone = (q : Int) := ⟨gone.toNat, by omega⟩
      subst hq
      by_cases g2 : (q : Int) = (j : Int)
      · have dg2 : ((q : Int) == (j : Int)) = true := by simp [g2]
        go_wp2_with (go_at_call 19; refine (HFX.out _).mono ?_; rintro e9 w9 ⟨rfl, hb9⟩; have H9 := Lib.hid (H8.out.trans (hb9.mono H8.out.size)); clear hb9)
        go_ret
        exact ⟨rfl, HB2.out.trans (H9.out.mono HB2.out.size)⟩
      have dg2 : ((q : Int) == (j : Int)) = false := by simp [g2]
      have hqm : (q : Int) < (m : Int) := by omega
      have HQM : Hid (q < m) := Lib.hid (by omega)
      have hqc : (q : Int) ≤ (c : Int) := by omega
      have hq0 : (0 : Int) ≤ (q : Int) := by omega
      have dq0 : decide ((m : Int) ≤ (q : Int)) = false := decide_eq_false (by omega)
      have dq1 : decide (m ≤ q) = false := decide_eq_false (by omega)
      have wq : IntKind.i64.wrap ((q : Int) + 1) = (q : Int) + 1 := IntWalk.i64_in _ (by have := HM9.out; omega)
      have hq1c : (q : Int) + 1 ≤ (m : Int) := by omega
      have hq1d : (0 : Int) ≤ (q : Int) + 1 := by omega
      have htn : ((q : Int) + 1).toNat = q + 1 := by omega
      have wat : IntKind.i64.wrap ((j : Int) - 1) = (j : Int) - 1 := IntWalk.i64_in _ (by have := HM9.out; omega)
      have hpw := pick_without (M := M) (room := room) (q := q) (by have := HLEN.out; omega) (by rw [HAT.out]; exact fun e => g2 e.symm)
      rw [HAT.out] at hpw
      obtain ⟨R9, hR9⟩ : ∃ z, pick (without M q) room = z := ⟨_, rfl⟩
      rw [hR9] at hpw
      have HR9 := Lib.hid hR9
      have HPW := Lib.hid hpw
      clear hR9 hpw
      have HPL : Hid (∀ (A9 : Option Addr) (p9 k9 : Nat) X, k9 = m - 1 → CR X A9 k9 (without M q) → k9 ≤ p9 → Calls Try.prog 13 #[.slice A9 k9 p9, .int .i64 room] X fun e w' => e = .returned (.int .i64 R9) ∧ Below X.heap.size X w') := Lib.hid (fun A9 p9 k9 X hk h h2 => by
        have h3 := HP.out.pk A9 k9 p9 _ room X h (by have := HM.out.le; omega) h2 (fun y hy => by
          rcases List.mem_append.1 hy with h | h
          · exact HM.out.ok y (List.mem_of_mem_take h)
          · exact HM.out.ok y (List.mem_of_mem_drop h)) HR.out
        rw [HR9.out] at h3
        exact h3)
      have HE8 : Hid (Sp.Sep X (X.alloc (.cells #[] 25)) [rowS 25 5 (.slice (some ⟨X.heap.size, 0, none⟩) 0 0) 0 []]) := Lib.hid (rows_lit (Sp.Sep.nil (Below.refl _ _)) 25 5)
      have HCX := Lib.hid (HCM.out.later H8.out)
      have HCQ : Hid (CR (X.alloc (.cells #[] 25)) (some ⟨gy, oy, none⟩) q (M.take q)) := Lib.hid ((HCX.out.cut q (by have := HQM.out; omega)).later (below1 X _))
      have hq1000 : 0 + q < 1000 := by have := HM9.out; omega
      go_upto_region 13 with (with_reducible refine wp_append_r rfl (.tmp 72) (.tmp 75) rfl rfl (some ⟨gy, oy, none⟩) q c rfl HE8.out 0 rfl HCQ.out hq1000 ?_; intro g8 p8 w8 hs8)
      have HL1 : Hid (Sp.Sep X w8 [rowS 25 5 (.slice (some ⟨g8, 0, none⟩) q p8) q ((M.take q).flatMap cdC)]) := Lib.hid (by simpa using hs8)
      clear hs8 HE8 HCQ hq1000
      have hsum : q + (m - (q + 1)) < 1000 := by have := HM9.out; omega
      have HREST : Hid (∀ (A9 : Option Addr) p9 k9 w9, k9 = m - 1 → Sp.Sep X w9 [rowS 25 5 (.slice A9 k9 p9) k9 ((M.take q).flatMap cdC ++ (M.drop (q + 1)).flatMap cdC)] → CR w9 A9 k9 (without M q) ∧ k9 ≤ p9 ∧ Below W1.heap.size W1 w9) := Lib.hid (fun A9 p9 k9 w9 hk h => by
        rw [← List.flatMap_append] at h
        exact ⟨CR.of_row h (k := 0) rfl (by rw [without_len (by have := HLEN.out; omega)]; have := HLEN.out; omega), rows_room h (k := 0) rfl, H8.out.trans (h.below.mono H8.out.size)⟩)
      by_cases hcap : c = q + 1
      · have hcc : (c : Int) = (q : Int) + 1 := by omega
        obtain rfl : m = q + 1 := by omega
        have HDR : M.drop (q + 1) = [] := List.drop_eq_nil_of_le (by have := HLEN.out; omega)
        have HNC : Hid (CR w8 (some ⟨gy, oy, none⟩) 0 []) := Lib.hid (CR.nil _ _)
        have hz : q + 0 < 1000 := by omega
        go_upto_region 14 with (with_reducible refine wp_append_r rfl (.tmp 77) (.tmp 81) rfl rfl (some ⟨gy, oy, none⟩) 0 0 (by simp [Act.eval]) HL1.out 0 rfl HNC.out hz ?_; intro g9 p9 w9 hs9)
        have HK9 : Hid (q = q + 1 - 1) := Lib.hid (by omega)
        have HR9B := Lib.hid (HREST.out (some ⟨g9, 0, none⟩) p9 q w9 HK9.out (by rw [HDR]; simpa using hs9))
        clear hz HDR HNC HREST
        have HC9 := Lib.hid (HPL.out _ p9 q w9 HK9.out HR9B.out.1 HR9B.out.2.1)
        clear HPL hs9
        by_cases hqa : (q : Int) < (j : Int)
        · have dqa : decide ((q : Int) < (j : Int)) = true := decide_eq_true hqa
          have hpw := HPW.out
          rw [if_pos hqa] at hpw
          subst hpw
          go_wp2_with (first
            | (go_at_call 13; with_reducible refine HC9.out.mono ?_; rintro e7 w10 ⟨rfl, hb7⟩; have H10 := Lib.hid (HR9B.out.2.2.trans (hb7.mono HR9B.out.2.2.size)); clear hb7)
            | (go_at_call 19; refine (HFX.out _).mono ?_; rintro e9 w9 ⟨rfl, hb9⟩; have H9 := Lib.hid (H10.out.trans (hb9.mono H10.out.size)); clear hb9))
          go_ret
          exact ⟨rfl, HB2.out.trans (H9.out.mono HB2.out.size)⟩
        · have dqa : decide ((q : Int) < (j : Int)) = false := decide_eq_false hqa
          have hpw := HPW.out
          rw [if_neg hqa] at hpw
          subst hpw
          go_wp2_with (first
            | (go_at_call 13; with_reducible refine HC9.out.mono ?_; rintro e7 w10 ⟨rfl, hb7⟩; have H10 := Lib.hid (HR9B.out.2.2.trans (hb7.mono HR9B.out.2.2.size)); clear hb7)
            | (go_at_call 19; refine (HFX.out _).mono ?_; rintro e9 w9 ⟨rfl, hb9⟩; have H9 := Lib.hid (H10.out.trans (hb9.mono H10.out.size)); clear hb9))
          go_ret
          exact ⟨rfl, HB2.out.trans (H9.out.mono HB2.out.size)⟩
      · have hcq : q + 1 < c := by omega
        have HCD := Lib.hid ((HCX.out.rest (q + 1)).later HL1.out.below)
        go_upto_region 14 with (with_reducible refine wp_append_r rfl (.tmp 77) (.tmp 81) rfl rfl (some ⟨gy, oy + (q + 1) * 5, none⟩) (m - (q + 1)) (c - (q + 1)) rfl HL1.out 0 rfl HCD.out hsum ?_; intro g9 p9 w9 hs9)
        have HK9 : Hid (q + (m - (q + 1)) = m - 1) := Lib.hid (by omega)
        have HR9B := Lib.hid (HREST.out (some ⟨g9, 0, none⟩) p9 (q + (m - (q + 1))) w9 HK9.out hs9)
        clear HREST
        have HC9 := Lib.hid (HPL.out _ p9 (q + (m - (q + 1))) w9 HK9.out HR9B.out.1 HR9B.out.2.1)
        clear HPL hs9
        by_cases hqa : (q : Int) < (j : Int)
        · have dqa : decide ((q : Int) < (j : Int)) = true := decide_eq_true hqa
          have hpw := HPW.out
          rw [if_pos hqa] at hpw
          subst hpw
          go_wp2_with (first
            | (go_at_call 13; with_reducible refine HC9.out.mono ?_; rintro e7 w10 ⟨rfl, hb7⟩; have H10 := Lib.hid (HR9B.out.2.2.trans (hb7.mono HR9B.out.2.2.size)); clear hb7)
            | (go_at_call 19; refine (HFX.out _).mono ?_; rintro e9 w9 ⟨rfl, hb9⟩; have H9 := Lib.hid (H10.out.trans (hb9.mono H10.out.size)); clear hb9))
          go_ret
          exact ⟨rfl, HB2.out.trans (H9.out.mono HB2.out.size)⟩
        · have dqa : decide ((q : Int) < (j : Int)) = false := decide_eq_false hqa
          have hpw := HPW.out
          rw [if_neg hqa] at hpw
          subst hpw
          go_wp2_with (first
            | (go_at_call 13; with_reducible refine HC9.out.mono ?_; rintro e7 w10 ⟨rfl, hb7⟩; have H10 := Lib.hid (HR9B.out.2.2.trans (hb7.mono HR9B.out.2.2.size)); clear hb7)
            | (go_at_call 19; refine (HFX.out _).mono ?_; rintro e9 w9 ⟨rfl, hb9⟩; have H9 := Lib.hid (H10.out.trans (hb9.mono H10.out.size)); clear hb9))
          go_ret
          exact ⟨rfl, HB2.out.trans (H9.out.mono HB2.out.size)⟩
    | false =>
      have CXY : Hid (∀ X, Calls Try.prog 10 #[.agg (cdA5 x), .agg (cdA5 y)] X fun e w' => e = .returned (.bool false) ∧ Below X.heap.size X w') := Lib.hid (fun X => by rw [← hxy]; exact HP.out.bt x y X HXI.out HYI.out)
      have HPJ : Hid (∀ X, Below w7.heap.size w7 X → Calls Try.prog 13 #[.slice A7 (m + 1) p7, .int .i64 room] X fun e w' => e = .returned (.int .i64 (j : Int)) ∧ Below X.heap.size X w') := Lib.hid (fun X hX => by
        have := HPM.out X hX
        rw [pick_more HAT.out (by rw [EY.out]; exact hxy)] at this
        exact this)
      have djj : ((j : Int) != (j : Int)) = false := by simp
      clear hxy BX2 HPM
      go_upto_region 8 with fail
      have I : Below w7.heap.size w7 { w7 with drawn := w7.drawn + 1 } := (Below.refl _ _).drew
      have hne : Nonempty (In (fun X => Below w7.heap.size w7 X)) := ⟨⟨_, I⟩⟩
      refine region_class (fun X => Below w7.heap.size w7 X) (by kernel_rfl) (by kernel_rfl) I ?_
      repeat (go_big_quiet_step (first
        | (go_at_call 13; with_reducible exact class_call _ (fun hi => (HPJ.out _ hi).mono fun _ _ ⟨he, hb⟩ => ⟨he, hi.trans (hb.mono hi.size)⟩))
        | (go_at_call 10; with_reducible exact class_call _ (fun hi => (CXY.out _).mono fun _ _ ⟨he, hb⟩ => ⟨he, hi.trans (hb.mono hi.size)⟩))))
      refine wpQuiet_nil ?_
      rintro _ ⟨jj, rfl⟩
      have H8 := Lib.hid (hI jj)
      clear I hne hI x0 x1 x2 x3 x4 y0 y1 y2 y3 y4
      generalize jj.W = X at *
      clear jj
      by_cases g0 : gone < 0
      · have dg0 : decide (gone < 0) = true := decide_eq_true g0
        go_wp2_with (go_at_call 19; refine (HFX.out _).mono ?_; rintro e9 w9 ⟨rfl, hb9⟩; have H9 := Lib.hid (H8.out.trans (hb9.mono H8.out.size)); clear hb9)
        go_ret
        exact ⟨rfl, HB2.out.trans (H9.out.mono HB2.out.size)⟩
      have dg0 : decide (gone < 0) = false := decide_eq_false g0
      by_cases g1 : (m : Int) ≤ gone
      · have dg1 : decide ((m : Int) ≤ gone) = true := decide_eq_true g1
        go_wp2_with (go_at_call 19; refine (HFX.out _).mono ?_; rintro e9 w9 ⟨rfl, hb9⟩; have H9 := Lib.hid (H8.out.trans (hb9.mono H8.out.size)); clear hb9)
        go_ret
        exact ⟨rfl, HB2.out.trans (H9.out.mono HB2.out.size)⟩
      have dg1 : decide ((m : Int) ≤ gone) = false := decide_eq_false g1
      obtain ⟨q, hq⟩ : ∃ q : Nat, gone = (q : Int) := ⟨gone.toNat, by omega⟩
      subst hq
      by_cases g2 : (q : Int) = (j : Int)
      · have dg2 : ((q : Int) == (j : Int)) = true := by simp [g2]
        go_wp2_with (go_at_call 19; refine (HFX.out _).mono ?_; rintro e9 w9 ⟨rfl, hb9⟩; have H9 := Lib.hid (H8.out.trans (hb9.mono H8.out.size)); clear hb9)
        go_ret
        exact ⟨rfl, HB2.out.trans (H9.out.mono HB2.out.size)⟩
      have dg2 : ((q : Int) == (j : Int)) = false := by simp [g2]
      have hqm : (q : Int) < (m : Int) := by omega
      have HQM : Hid (q < m) := Lib.hid (by omega)
      have hqc : (q : Int) ≤ (c : Int) := by omega
      have hq0 : (0 : Int) ≤ (q : Int) := by omega
      have dq0 : decide ((m : Int) ≤ (q : Int)) = false := decide_eq_false (by omega)
      have dq1 : decide (m ≤ q) = false := decide_eq_false (by omega)
      have wq : IntKind.i64.wrap ((q : Int) + 1) = (q : Int) + 1 := IntWalk.i64_in _ (by have := HM9.out; omega)
      have hq1c : (q : Int) + 1 ≤ (m : Int) := by omega
      have hq1d : (0 : Int) ≤ (q : Int) + 1 := by omega
      have htn : ((q : Int) + 1).toNat = q + 1 := by omega
      have wat : IntKind.i64.wrap ((j : Int) - 1) = (j : Int) - 1 := IntWalk.i64_in _ (by have := HM9.out; omega)
      have hpw := pick_without (M := M) (room := room) (q := q) (by have := HLEN.out; omega) (by rw [HAT.out]; exact fun e => g2 e.symm)
      rw [HAT.out] at hpw
      obtain ⟨R9, hR9⟩ : ∃ z, pick (without M q) room = z := ⟨_, rfl⟩
      rw [hR9] at hpw
      have HR9 := Lib.hid hR9
      have HPW := Lib.hid hpw
      clear hR9 hpw
      have HPL : Hid (∀ (A9 : Option Addr) (p9 k9 : Nat) X, k9 = m - 1 → CR X A9 k9 (without M q) → k9 ≤ p9 → Calls Try.prog 13 #[.slice A9 k9 p9, .int .i64 room] X fun e w' => e = .returned (.int .i64 R9) ∧ Below X.heap.size X w') := Lib.hid (fun A9 p9 k9 X hk h h2 => by
        have h3 := HP.out.pk A9 k9 p9 _ room X h (by have := HM.out.le; omega) h2 (fun y hy => by
          rcases List.mem_append.1 hy with h | h
          · exact HM.out.ok y (List.mem_of_mem_take h)
          · exact HM.out.ok y (List.mem_of_mem_drop h)) HR.out
        rw [HR9.out] at h3
        exact h3)
      have HE8 : Hid (Sp.Sep X (X.alloc (.cells #[] 25)) [rowS 25 5 (.slice (some ⟨X.heap.size, 0, none⟩) 0 0) 0 []]) := Lib.hid (rows_lit (Sp.Sep.nil (Below.refl _ _)) 25 5)
      have HCX := Lib.hid (HCM.out.later H8.out)
      have HCQ : Hid (CR (X.alloc (.cells #[] 25)) (some ⟨gy, oy, none⟩) q (M.take q)) := Lib.hid ((HCX.out.cut q (by have := HQM.out; omega)).later (below1 X _))
      have hq1000 : 0 + q < 1000 := by have := HM9.out; omega
      go_upto_region 13 with (with_reducible refine wp_append_r rfl (.tmp 72) (.tmp 75) rfl rfl (some ⟨gy, oy, none⟩) q c rfl HE8.out 0 rfl HCQ.out hq1000 ?_; intro g8 p8 w8 hs8)
      have HL1 : Hid (Sp.Sep X w8 [rowS 25 5 (.slice (some ⟨g8, 0, none⟩) q p8) q ((M.take q).flatMap cdC)]) := Lib.hid (by simpa using hs8)
      clear hs8 HE8 HCQ hq1000
      have hsum : q + (m - (q + 1)) < 1000 := by have := HM9.out; omega
      have HREST : Hid (∀ (A9 : Option Addr) p9 k9 w9, k9 = m - 1 → Sp.Sep X w9 [rowS 25 5 (.slice A9 k9 p9) k9 ((M.take q).flatMap cdC ++ (M.drop (q + 1)).flatMap cdC)] → CR w9 A9 k9 (without M q) ∧ k9 ≤ p9 ∧ Below W1.heap.size W1 w9) := Lib.hid (fun A9 p9 k9 w9 hk h => by
        rw [← List.flatMap_append] at h
        exact ⟨CR.of_row h (k := 0) rfl (by rw [without_len (by have := HLEN.out; omega)]; have := HLEN.out; omega), rows_room h (k := 0) rfl, H8.out.trans (h.below.mono H8.out.size)⟩)
      by_cases hcap : c = q + 1
      · have hcc : (c : Int) = (q : Int) + 1 := by omega
        obtain rfl : m = q + 1 := by omega
        have HDR : M.drop (q + 1) = [] := List.drop_eq_nil_of_le (by have := HLEN.out; omega)
        have HNC : Hid (CR w8 (some ⟨gy, oy, none⟩) 0 []) := Lib.hid (CR.nil _ _)
        have hz : q + 0 < 1000 := by omega
        go_upto_region 14 with (with_reducible refine wp_append_r rfl (.tmp 77) (.tmp 81) rfl rfl (some ⟨gy, oy, none⟩) 0 0 (by simp [Act.eval]) HL1.out 0 rfl HNC.out hz ?_; intro g9 p9 w9 hs9)
        have HK9 : Hid (q = q + 1 - 1) := Lib.hid (by omega)
        have HR9B := Lib.hid (HREST.out (some ⟨g9, 0, none⟩) p9 q w9 HK9.out (by rw [HDR]; simpa using hs9))
        clear hz HDR HNC HREST
        have HC9 := Lib.hid (HPL.out _ p9 q w9 HK9.out HR9B.out.1 HR9B.out.2.1)
        clear HPL hs9
        by_cases hqa : (q : Int) < (j : Int)
        · have dqa : decide ((q : Int) < (j : Int)) = true := decide_eq_true hqa
          have hpw := HPW.out
          rw [if_pos hqa] at hpw
          subst hpw
          go_wp2_with (first
            | (go_at_call 13; with_reducible refine HC9.out.mono ?_; rintro e7 w10 ⟨rfl, hb7⟩; have H10 := Lib.hid (HR9B.out.2.2.trans (hb7.mono HR9B.out.2.2.size)); clear hb7)
            | (go_at_call 19; refine (HFX.out _).mono ?_; rintro e9 w9 ⟨rfl, hb9⟩; have H9 := Lib.hid (H10.out.trans (hb9.mono H10.out.size)); clear hb9))
          go_ret
          exact ⟨rfl, HB2.out.trans (H9.out.mono HB2.out.size)⟩
        · have dqa : decide ((q : Int) < (j : Int)) = false := decide_eq_false hqa
          have hpw := HPW.out
          rw [if_neg hqa] at hpw
          subst hpw
          go_wp2_with (first
            | (go_at_call 13; with_reducible refine HC9.out.mono ?_; rintro e7 w10 ⟨rfl, hb7⟩; have H10 := Lib.hid (HR9B.out.2.2.trans (hb7.mono HR9B.out.2.2.size)); clear hb7)
            | (go_at_call 19; refine (HFX.out _).mono ?_; rintro e9 w9 ⟨rfl, hb9⟩; have H9 := Lib.hid (H10.out.trans (hb9.mono H10.out.size)); clear hb9))
          go_ret
          exact ⟨rfl, HB2.out.trans (H9.out.mono HB2.out.size)⟩
      · have hcq : q + 1 < c := by omega
        have HCD := Lib.hid ((HCX.out.rest (q + 1)).later HL1.out.below)
        go_upto_region 14 with (with_reducible refine wp_append_r rfl (.tmp 77) (.tmp 81) rfl rfl (some ⟨gy, oy + (q + 1) * 5, none⟩) (m - (q + 1)) (c - (q + 1)) rfl HL1.out 0 rfl HCD.out hsum ?_; intro g9 p9 w9 hs9)
        have HK9 : Hid (q + (m - (q + 1)) = m - 1) := Lib.hid (by omega)
        have HR9B := Lib.hid (HREST.out (some ⟨g9, 0, none⟩) p9 (q + (m - (q + 1))) w9 HK9.out hs9)
        clear HREST
        have HC9 := Lib.hid (HPL.out _ p9 (q + (m - (q + 1))) w9 HK9.out HR9B.out.1 HR9B.out.2.1)
        clear HPL hs9
        by_cases hqa : (q : Int) < (j : Int)
        · have dqa : decide ((q : Int) < (j : Int)) = true := decide_eq_true hqa
          have hpw := HPW.out
          rw [if_pos hqa] at hpw
          subst hpw
          go_wp2_with (first
            | (go_at_call 13; with_reducible refine HC9.out.mono ?_; rintro e7 w10 ⟨rfl, hb7⟩; have H10 := Lib.hid (HR9B.out.2.2.trans (hb7.mono HR9B.out.2.2.size)); clear hb7)
            | (go_at_call 19; refine (HFX.out _).mono ?_; rintro e9 w9 ⟨rfl, hb9⟩; have H9 := Lib.hid (H10.out.trans (hb9.mono H10.out.size)); clear hb9))
          go_ret
          exact ⟨rfl, HB2.out.trans (H9.out.mono HB2.out.size)⟩
        · have dqa : decide ((q : Int) < (j : Int)) = false := decide_eq_false hqa
          have hpw := HPW.out
          rw [if_neg hqa] at hpw
          subst hpw
          go_wp2_with (first
            | (go_at_call 13; with_reducible refine HC9.out.mono ?_; rintro e7 w10 ⟨rfl, hb7⟩; have H10 := Lib.hid (HR9B.out.2.2.trans (hb7.mono HR9B.out.2.2.size)); clear hb7)
            | (go_at_call 19; refine (HFX.out _).mono ?_; rintro e9 w9 ⟨rfl, hb9⟩; have H9 := Lib.hid (H10.out.trans (hb9.mono H10.out.size)); clear hb9))
          go_ret
          exact ⟨rfl, HB2.out.trans (H9.out.mono HB2.out.size)⟩

set_option maxRecDepth 100000 in
theorem lifted (P : Prg) (os : Os) (started : os.Started) (H : Type) (enc : TypeId × Value → H) :
    ReturnsInHanded {} Try.checked os 9 .any (Rows.victimRestSpec.pre6 enc Try.prog Try.f9 Rows.victimRestRow.domain false) (Rows.victimRestSpec.post enc Try.prog Try.f9 false true false false) := by
  refine returnsInHanded_of_change (C := Try.checked) own started (by kernel_rfl) Try.func9
    (ChangeSpec.witness6 (enc := enc) (C := Try.checked) false ⟨#[], #[.slice none 0 0, .agg #[.int .i64 0, .int .i64 0, .int .i64 0, .int .i64 0, .int .u64 0], .agg #[.int .i64 0, .int .i64 0]], []⟩ 8 (by kernel_rfl) (by kernel_rfl) (by kernel_rfl) (by kernel_rfl)) ?_
  intro W base args ds gs before hval0 hW hcnd _
  have hval : ∀ (j : Nat) t v, Try.f9.params[j]? = some t → args[j]? = some v → Value.okWide Try.prog W .any base t v := hval0
  have hW' := hW
  obtain ⟨p, q, hA0, hV, rfl, hfz, hnd⟩ := hW
  have hA : DataW.TrodAll enc Try.prog W 0 (fun _ => true) true Try.f9.params.toList args.toList ds p := hA0
  rw [Try.params9] at hA hval
  obtain ⟨v0, vs0, d0, ds0, p0, q0, hargs, rfl, rfl, h0, r0⟩ := trodAll_cons hA
  obtain ⟨v1, vs1, d1, ds1, p1, q1, rfl, rfl, rfl, h1, r1⟩ := trodAll_cons r0
  obtain ⟨v2, vs2, d2, ds2, p2, q2, rfl, rfl, rfl, h2, r2⟩ := trodAll_cons r1
  obtain ⟨rfl, rfl, rfl⟩ := trodAll_nil r2
  obtain rfl : args = #[v0, v1, v2] := by cases args; simp_all
  obtain ⟨rfl, rfl⟩ := trodVars_none hV
  obtain ⟨A0, n0, c0, L0, rfl, hn0, hp0, hL0, ho0⟩ := open_cands (hval 0 22 v0 rfl rfl) h0
  obtain ⟨x1, rfl, hx1⟩ := open_cand (hval 1 25 v1 rfl rfl) h1
  obtain ⟨a2, b2, rfl, w2, u2⟩ := open_two (hval 2 46 v2 rfl rfl) h2
  clear hA0 hval0
  try simp only [List.append_nil] at hW'
  try simp only [List.nil_append] at hW'
  have hlt := fun x hx => hW'.lt x hx
  refine (walk P A0 n0 c0 L0 x1 a2 b2 W hL0 hn0 hp0 ho0 hx1 w2 u2).mono fun e W' ⟨he, hg⟩ => ?_
  subst he
  refine ⟨_, rfl, post_mem hW' (fun _ _ _ => (trodAll_cons_mk (shut_bool Try.underlying4 _) trodAll_mk0)) (fun sp hsp => ?_) (fun _ => rfl) hg (ok_one (by kernel_rfl) rfl (okWide_bool_mk Try.underlying4 _))⟩
  have hall := (trodAll_cons_mk (arg_same (sp := sp) laid (by kernel_rfl) (of_decide_eq_true (by kernel_rfl)) h0 hg (by intro x hx; simp_all) hlt hsp) (trodAll_cons_mk (arg_same (sp := sp) laid (by kernel_rfl) (of_decide_eq_true (by kernel_rfl)) h1 hg (by intro x hx; simp_all) hlt hsp) (trodAll_cons_mk (arg_same (sp := sp) laid (by kernel_rfl) (of_decide_eq_true (by kernel_rfl)) h2 hg (by intro x hx; simp_all) hlt hsp) trodAll_mk0)))
  try simp only [List.append_nil] at hall
  try simp only [List.nil_append] at hall
  exact hall

theorem over (P : Prg) : Rows.victimRestRow.holds Try.pinned (OpenSpec.ofChange Rows.victimRestSpec) :=
  OpenClaim.holds_of_wide 9 Try.f9 rfl rfl rfl rfl rfl rfl rfl ⟨rfl, rfl, rfl, rfl, rfl⟩ rfl rfl rfl rfl rfl (by kernel_rfl) Try.func9 (by kernel_rfl)
    (of_decide_eq_true (by kernel_rfl)) (by unfold Func.isWrapper; first | (rw [if_pos (by decide +kernel)]; kernel_rfl) | (rw [if_neg (by decide +kernel)]; exact ⟨rfl, rfl⟩))
    (fun os started H enc _ => lifted P os started H enc)

end Go.Proofs.Ytgepkomomjmmhaa.victimRest
