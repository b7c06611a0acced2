/- For all inputs the statement IndexSums about index returns true, and changes nothing. Conditions: none. -/
import Derived.Test.YtjdkgkllgapgjaaJxQ
import Derived.Test.YtjdkgkllgapgjaaClass
import Derived.Deep.RegionWith
import Derived.Test.YtjdkgkllgapgjaaJxO
import Derived.Test.YtjdkgkllgapgjaaMem
import Derived.ProofKit
import Derived.OpenShut
import Derived.ShutString
import Derived.SizedLaws
namespace Go.Proofs.Ytjdkgkllgapgjaa.indexSums
open Go.ChangeShapes Go.WideShapes Go.ChangeAt Go.RowKit Go.Lib Go.MapKept
open Go.ChangeMaps (open_string shut_string)
set_option linter.unusedVariables false
set_option linter.unusedSimpArgs false

theorem own : ownKnob Try.prog.godebug = none := by kernel_rfl
theorem laid : laidOutB Try.prog = true := by kernel_rfl

set_option maxRecDepth 100000
open Ix Sp
open Re (Rec Key isL rcA RR RC cut80 cutR ROk)
set_option maxHeartbeats 32000000 in
theorem walk {XI : Nat → Idx → Sp.Item} (P : Prg XI) (A : Option Addr) (n c : Nat) (L : List Rec) (B : Option Addr) (n1 c1 : Nat) (f : Nat → ByteArray) (w : World) (hR : RR w A n L) (hn : n ≤ maxLen) (hf : ∀ r ∈ L, ROk r)
    (hn1 : n1 ≤ maxLen) (hK : CellsIn w B n1 (fun j => .string (f j))) (hKf : ∀ j, j < n1 → (f j).size ≤ maxLen) :
    Calls Try.prog 3 #[.slice A n c, .slice B n1 c1] w fun e w' => e = .returned (.bool true) ∧ Below w.heap.size w w' := by
  have HP := Lib.hid P
  have HKC := Lib.hid hK
  have HKF := Lib.hid hKf
  obtain ⟨m, hm⟩ : ∃ m, min n1 10 = m := ⟨_, rfl⟩
  have HM := Lib.hid hm
  have HFL := Lib.hid (filled_any (p := c) P (Sp.Sep.nil (Below.refl w.heap.size w)) hR hf hn)
  obtain ⟨x0, hx⟩ : ∃ x, flN L (min n 40) = x := ⟨_, rfl⟩
  rw [hx] at HFL
  have HG0 : Hid (∀ q, Ix.Good (klN x0 f q) ∧ Lay (klN x0 f q)) := Lib.hid (kl_good (by rw [← hx]; exact (fl_good hf _ (by omega)).1) (by rw [← hx]; exact fl_lay (by omega)) f)
  clear P hR hf hn hm hx hK hKf
  go_enter Try.func3, Try.ntmps3
  go_upto_region 5 with (first
    | (go_at_call 7; refine HFL.out.mono ?_; rintro e3 w3 ⟨g, rfl, h3⟩; have H3 : Hid (Sp.Sep w w3 [XI g (klN x0 f 0)]) := Lib.hid h3; clear h3))
  clear HFL
  go_loopg [6] m (fun gk s6 wr => ∃ (q : Nat), q ≤ m ∧ gk = m - q ∧ s6 = .int .i64 (q : Nat) ∧ Hid (Sp.Sep w wr [XI g (klN x0 f q)]))
  case atStart => exact ⟨0, by omega, rfl, rfl, H3⟩
  case round =>
    obtain ⟨q, hq, hgk, rfl, HS⟩ := hrel
    have HGK := Lib.hid hgk
    clear hgk H3
    by_cases hlt : q < m
    · have hl1 : (q : Int) < (n1 : Int) := by have := HM.out; omega
      have hl2 : (q : Int) < 10 := by have := HM.out; omega
      have wi : IntKind.i64.wrap ((q : Int) + 1) = (q : Int) + 1 := IntWalk.i64_in _ (by omega)
      obtain ⟨g2, o, rfl, hb2, hc⟩ := HKC.out (by have := HM.out; omega)
      have y0 : wr.cell? ⟨g2, o + q, none⟩ = some (.string (f q)) := (HS.out.below.cell hb2).trans (hc q (by have := HM.out; omega))
      have HKL := Lib.hid (HP.out.kl (f q) (HKF.out q (by have := HM.out; omega)) HS.out (k := 0) rfl (HG0.out q).1)
      clear hc hb2
      go_wp2_with (go_at_call 8; refine HKL.out.mono ?_; rintro e5 w5 ⟨rfl, h5⟩; have H5 : Hid (Sp.Sep w w5 [XI g (klN x0 f (q + 1))]) := Lib.hid h5; clear h5)
      go_roundg (m - (q + 1))
      case measure => have := HGK.out; omega
      case rel => exact ⟨q + 1, by omega, by have := HGK.out; omega, by go_num, H5⟩
    · obtain rfl : q = m := by omega
      have hqm := HM.out
      have hex : ¬ ((q : Int) < (n1 : Int)) ∨ ((q : Int) < (n1 : Int) ∧ ¬ ((q : Int) < 10)) := by omega
      obtain ⟨x, hx⟩ : ∃ x, klN x0 f q = x := ⟨_, rfl⟩
      have HG : Hid (Ix.Good x) := Lib.hid (by rw [← hx]; exact (HG0.out q).1)
      have HLY : Hid (Lay x) := Lib.hid (by rw [← hx]; exact (HG0.out q).2)
      rw [hx] at HS
      clear hqm hlt hq HGK hx HG0 HKC HKF
      rcases hex with hl5 | ⟨hl5, hl6⟩
      all_goals (
        go_upto_region 10 with fail
        go_loopg [7, 8, 9] 10 (fun gk s7 s8 s9 wr => ∃ (k : Nat), k ≤ 10 ∧ gk = 10 - k ∧ s7 = .int .i64 (sumL x k) ∧ s8 = .int .i64 (sumZ x k) ∧ s9 = .int .i64 (k : Nat) ∧ Hid (Sp.Sep w wr [XI g x]))
        case atStart => exact ⟨0, by omega, rfl, rfl, rfl, rfl, HS⟩
        case round =>
          obtain ⟨k, hk, hgk, rfl, rfl, rfl, HS2⟩ := hrel
          have HGK := Lib.hid hgk
          clear hgk HS
          by_cases hk10 : k < 10
          · have hl7 : (k : Int) < 10 := by omega
            have wi : IntKind.i64.wrap ((k : Int) + 1) = (k : Int) + 1 := IntWalk.i64_in _ (by omega)
            have hin := HP.out.in' (k : Int) (by unfold I64; omega) HS2.out (k := 0) rfl HG.out
            have q1 := in_le4 HG.out HLY.out (k : Int)
            have q2 := inL_le x (k : Int)
            have q3 := inZ_bounds HG.out (k : Int)
            have q4 := sumL_bound HG.out HLY.out k
            have q5 := sumZ_bound HG.out HLY.out k
            have HSL : Hid (sumL x (k + 1) = sumL x k + (inL x (k : Int) : Nat)) := Lib.hid rfl
            have HSZ : Hid (sumZ x (k + 1) = sumZ x k + inZ x (k : Int)) := Lib.hid rfl
            generalize inN x (k : Int) = N at *
            generalize inL x (k : Int) = M at *
            generalize inZ x (k : Int) = Z at *
            generalize sumL x k = SL at *
            generalize sumZ x k = SZ at *
            have w1 : IntKind.i64.wrap (31 * (M : Int)) = 31 * (M : Int) := IntWalk.i64_in _ (by omega)
            have w2 : IntKind.i64.wrap (191 * (M : Int)) = 191 * (M : Int) := IntWalk.i64_in _ (by omega)
            have w3 : IntKind.i64.wrap (SL + (M : Int)) = SL + (M : Int) := IntWalk.i64_in _ (by omega)
            have w4 : IntKind.i64.wrap (SZ + Z) = SZ + Z := IntWalk.i64_in _ (by omega)
            have p1 : ¬ ((N : Int) < (M : Int)) := by omega
            have p2 : ¬ ((4 : Int) < (N : Int)) := by omega
            have p3 : ¬ ((M : Int) < 0) := by omega
            have p4 : ¬ (Z < 31 * (M : Int)) := by omega
            have p5 : ¬ (191 * (M : Int) < Z) := by omega
            have HIN := Lib.hid hin
            clear hin q1 q2 q3 q4 q5
            go_wp2_with (go_at_call 9; refine HIN.out.mono ?_; rintro e5 w5 ⟨rfl, hb5⟩; have H5 := Lib.hid (HS2.out.later hb5); clear hb5)
            go_roundg (10 - (k + 1))
            case measure => have := HGK.out; omega
            case rel => exact ⟨k + 1, by omega, by have := HGK.out; omega, by rw [HSL.out], by rw [HSZ.out], by go_num, H5⟩
          · obtain rfl : k = 10 := by omega
            have HIDS := Lib.hid (HP.out.ids HS2.out (k := 0) rfl HG.out)
            rw [sumL_all HG.out HLY.out, sumZ_all HG.out HLY.out, ← lft_zero]
            obtain ⟨M, hM⟩ : ∃ M, (idsX x).length = M := ⟨_, rfl⟩
            have HML := Lib.hid hM
            have HMI : Hid ((liv x).length = M) := Lib.hid (by rw [← hM]; unfold idsX; rw [List.length_map]; rfl)
            have HM2 : Hid (M ≤ 200) := Lib.hid (by
              rw [← HMI.out]
              have h1 := List.length_filter_le Nw.b x.L
              have h2 := HG.out.m
              unfold liv
              omega)
            rw [hM]
            go_upto_region 18 with (go_at_call 10; refine HIDS.out.mono ?_; rintro e5 w5 ⟨vi, rfl, hb5, hw5⟩; have H5 := Lib.hid (HS2.out.later hb5); have HW5 := Lib.hid hw5; clear hb5 hw5)
            obtain ⟨AI, pI, hvi⟩ := HW5.out.sl
            subst hvi
            rw [hM] at HW5
            rw [hM]
            clear HIDS hM
            go_upto_region 19 with fail
            go_loopg [8, 14] M (fun gk s8 s14 wr => ∃ (i : Nat), i ≤ M ∧ gk = M - i ∧ s8 = .int .i64 (lft x i) ∧ s14 = .int .i64 (i : Nat) ∧ Hid (Sp.Sep w wr [XI g x]) ∧ Hid (WR wr (.slice AI M pI) (idsX x)))
            case atStart => exact ⟨0, by omega, rfl, rfl, rfl, H5, HW5⟩
            case round =>
              obtain ⟨i, hi, hgk, rfl, rfl, HS3, HW⟩ := hrel
              have HGK3 := Lib.hid hgk
              clear hgk HS2 H5 HW5
              by_cases hiM : i < M
              · have hl8 : (i : Int) < (M : Int) := by omega
                have wi : IntKind.i64.wrap ((i : Int) + 1) = (i : Int) + 1 := IntWalk.i64_in _ (by have := HM2.out; omega)
                obtain ⟨a, ha⟩ : ∃ a, (liv x)[i]? = some a := ⟨_, List.getElem?_eq_getElem (by rw [HMI.out]; exact hiM)⟩
                obtain ⟨l1, l2, l3, ca, l4, l5⟩ := liv_is HG.out ha
                have hai : a.i.size ≤ maxLen := by
                  obtain ⟨q1, q2, q3⟩ := at_some l4
                  have := HG.out.i ca q1
                  rw [l5] at this
                  unfold maxLen
                  omega
                have haL := (List.mem_filter.1 (List.mem_of_getElem? ha)).1
                have hrg := ent_range HG.out HLY.out a haL
                have hne := HP.out.ne a.i hai HS3.out (k := 0) rfl HG.out
                rw [l2] at hne
                have HNE : Hid (Calls Try.prog 11 #[.pointer (some ⟨g, 0, none⟩), .string a.i] wr fun e w' => e = .returned (.tuple #[.agg #[.int .u64 a.v, .int .u64 a.d, .bool true, .int .i64 a.z, .int .i64 a.s, .int .i64 a.p], .bool true]) ∧ Below wr.heap.size wr w') := Lib.hid (by
                  have q5 : Calls Try.prog 11 #[.pointer (some ⟨g, 0, none⟩), .string a.i] wr fun e w' => e = .returned (.tuple #[.agg #[.int .u64 a.v, .int .u64 a.d, .bool a.b, .int .i64 a.z, .int .i64 a.s, .int .i64 a.p], .bool true]) ∧ Below wr.heap.size wr w' := hne
                  rw [l3] at q5
                  exact q5)
                have HAT : Hid (∀ w9 J, Sp.Sep w w9 (XI g x :: J) → Calls Try.prog 12 #[.pointer (some ⟨g, 0, none⟩), .agg #[.int .i64 a.s, .int .i64 a.p]] w9 fun e w' => e = .returned (.tuple #[.string a.i, .bool true]) ∧ Below w9.heap.size w9 w') := Lib.hid (fun w9 J h9 => by
                  have q5 := HP.out.at' a.s a.p (by unfold I64; omega) (by unfold I64; omega) h9 (k := 0) rfl HG.out
                  rw [l4] at q5
                  rw [← l5]
                  exact q5)
                obtain ⟨g5, o5, p5, hv5, hc5⟩ := HW.out.c i a.i l1
                rw [HML.out] at hv5
                injection hv5 with e1 e2 e3
                subst e1
                have HW2 := HW
                have hlf := lft_bound HG.out i
                have hlf2 := lft_bound HG.out (i + 1)
                have hlen2 := HG.out.m
                have HLF : Hid (lft x (i + 1) = lft x i - a.z) := Lib.hid (lft_step ha)
                have ws : IntKind.i64.wrap (lft x i - a.z) = lft x i - a.z := IntWalk.i64_in _ (by rw [← HLF.out]; omega)
                have HA := Lib.hid ha
                clear l1 l2 l4 l5 hai haL hrg hne e2 e3 hlf hlf2 hlen2 ha l3
                go_upto_region 22 with (first
                  | (go_at_call 11; refine HNE.out.mono ?_; rintro e7 w7 ⟨rfl, hb7⟩; have H7 := Lib.hid (HS3.out.later hb7); have HW7 := Lib.hid (HW.out.later hb7); clear hb7))
                have h8 := loc_alloc H7.out 34 #[.int .u64 a.v, .int .u64 a.d, .bool true, .int .i64 a.z, .int .i64 a.s, .int .i64 a.p]
                have hw8 := HW7.out.later ((Below.refl w7.heap.size w7).alloc (Nat.le_refl _) (.cells #[.int .u64 a.v, .int .u64 a.d, .bool true, .int .i64 a.z, .int .i64 a.s, .int .i64 a.p] 34))
                obtain ⟨ne, hne⟩ : ∃ ne, w7.heap.size = ne := ⟨_, rfl⟩
                rw [hne] at h8
                rw [hne]
                have H8 := Lib.hid h8
                have HW8 := Lib.hid hw8
                clear h8 hw8 hne hc5
                generalize w7.alloc (.cells #[.int .u64 a.v, .int .u64 a.d, .bool true, .int .i64 a.z, .int .i64 a.s, .int .i64 a.p] 34) = w8 at *
                have u4 : w8.cell? ⟨ne, 4, none⟩ = some (.int .i64 a.s) := (loc_blk H8.out (k := 1) rfl).cell 4
                have u5 : w8.cell? ⟨ne, 5, none⟩ = some (.int .i64 a.p) := (loc_blk H8.out (k := 1) rfl).cell 5
                go_upto_region 23 with (first
                  | (go_at_call 12; refine (HAT.out _ _ H8.out).mono ?_; rintro e9 w9 ⟨rfl, hb9⟩; have H9 := Lib.hid (H8.out.later hb9); have HW9 := Lib.hid (HW8.out.later hb9); clear hb9))
                clear u4 u5
                have u2 : w9.cell? ⟨ne, 2, none⟩ = some (.bool true) := (loc_blk H9.out (k := 1) rfl).cell 2
                have u3 : ∀ k : Nat, (w9.drewN k).cell? ⟨ne, 3, none⟩ = some (.int .i64 a.z) := fun k => (loc_blk H9.out (k := 1) rfl).cell 3
                obtain ⟨g6, o6, p6, hv6, hc6⟩ := HW9.out.c i a.i (liv_is HG.out HA.out).1
                rw [HML.out] at hv6
                injection hv6 with e1 e2 e3
                injection e1 with e1
                injection e1 with e11 e12 _
                subst e11
                subst e12
                clear e2 e3
                have H10 : Hid (∀ k, Sp.Sep w (w9.drewN k) [XI g x]) := Lib.hid (fun k => (loc_drop (items := [XI g x]) H9.out).later (Re.below_drewN (Below.refl _ _) k))
                have HW10 : Hid (∀ k, WR (w9.drewN k) (.slice (some ⟨g5, o5, none⟩) M pI) (idsX x)) := Lib.hid (fun k => HW9.out.later (Re.below_drewN (Below.refl _ _) k))
                rcases Nat.eq_zero_or_pos i with hi0 | hi0
                · have hip : ¬ ((0 : Int) < (i : Int)) := by omega
                  have hip2 : decide (0 < i) = false := decide_eq_false (by omega)
                  clear hi0 hip
                  go_quiet (fail)
                  have H11 := Lib.hid (H10.out nq)
                  have HW11 := Lib.hid (HW10.out nq)
                  have u3' := u3 nq
                  clear u2 u3 hc6
                  generalize w9.drewN nq = w10 at *
                  go_wp2_with fail
                  go_roundg (M - (i + 1))
                  case measure => have := HGK3.out; omega
                  case rel => exact ⟨i + 1, by omega, by have := HGK3.out; omega, by rw [HLF.out], by go_num, H11, HW11⟩
                · have hip : (0 : Int) < (i : Int) := by omega
                  have hip2 : decide (0 < i) = true := decide_eq_true hi0
                  obtain ⟨j, hj⟩ : ∃ j, j + 1 = i := ⟨i - 1, by omega⟩
                  have hjs : IntKind.i64.wrap ((i : Int) - 1) = (j : Int) := by rw [← hj]; rw [IntWalk.i64_in _ (by have := HM2.out; omega)]; omega
                  have hjM : (j : Int) < (M : Int) := by omega
                  obtain ⟨b, hb⟩ : ∃ b, (liv x)[j]? = some b := ⟨_, List.getElem?_eq_getElem (by rw [HMI.out]; omega)⟩
                  obtain ⟨g7, o7, p7, hv7, hc7⟩ := HW9.out.c j b.i (liv_is HG.out hb).1
                  rw [HML.out] at hv7
                  injection hv7 with e1 e2 e3
                  injection e1 with e1
                  injection e1 with e11 e12 _
                  subst e11
                  subst e12
                  have hlt9 : b.i.toList < a.i.toList := liv_lt HG.out hb (by rw [hj]; exact HA.out)
                  have k1 : ∀ W, (binOp .geq 9 (.string b.i) (.string a.i)).run Try.prog W = .ok (.bool false) W := fun W => by
                    rw [run_geq, Go.Proofs.bytesLess_eq]
                    rw [show decide (b.i.toList < a.i.toList) = true from decide_eq_true hlt9]
                    rfl
                  clear e2 e3 hb hlt9 hi0 hj hip
                  go_quiet (fail)
                  have H11 := Lib.hid (H10.out nq)
                  have HW11 := Lib.hid (HW10.out nq)
                  have u3' := u3 nq
                  clear u2 u3 hc6 hc7 k1
                  generalize w9.drewN nq = w10 at *
                  go_wp2_with fail
                  go_roundg (M - (i + 1))
                  case measure => have := HGK3.out; omega
                  case rel => exact ⟨i + 1, by omega, by have := HGK3.out; omega, by rw [HLF.out], by go_num, H11, HW11⟩
              · obtain rfl : i = M := by omega
                rw [lft_end (by rw [HMI.out]; omega)]
                have hlv := HP.out.lv HS3.out (k := 0) rfl HG.out
                rw [HML.out] at hlv
                have HLV := Lib.hid hlv
                have HFX := Lib.hid (fun w9 => fixed_any HP.out w9)
                clear hlv
                go_wp2_with (first
                  | (go_at_call 13; refine HLV.out.mono ?_; rintro e5 w5 ⟨rfl, hb5⟩; have H5 := Lib.hid (HS3.out.later hb5); clear hb5)
                  | (go_at_call 14; refine (HFX.out _).mono ?_; rintro e9 w9 ⟨rfl, hb9⟩; have HB9 := Lib.hid (H5.out.below.trans (hb9.mono H5.out.below.size)); clear hb9))
                go_ret
                exact ⟨rfl, HB9.out⟩)

set_option maxRecDepth 100000 in
theorem lifted {XI : Nat → Idx → Sp.Item} (P : Prg XI) (os : Os) (started : os.Started) (H : Type) (enc : TypeId × Value → H) :
    ReturnsInHanded {} Try.checked os 3 .any (Rows.indexSumsSpec.pre6 enc Try.prog Try.f3 Rows.indexSumsRow.domain false) (Rows.indexSumsSpec.post enc Try.prog Try.f3 false true false false) := by
  refine returnsInHanded_of_change (C := Try.checked) own started (by kernel_rfl) Try.func3
    (ChangeSpec.witness6 (enc := enc) (C := Try.checked) false ⟨#[], #[.slice none 0 0, .slice none 0 0], []⟩ 8 (by kernel_rfl) (by kernel_rfl) (by kernel_rfl) (by kernel_rfl)) ?_
  intro W base args ds gs before hval0 hW hcnd _
  have hval : ∀ (j : Nat) t v, Try.f3.params[j]? = some t → args[j]? = some v → Value.okWide Try.prog W .any base t v := hval0
  have hW' := hW
  obtain ⟨p, q, hA0, hV, rfl, hfz, hnd⟩ := hW
  have hA : DataW.TrodAll enc Try.prog W 0 (fun _ => true) true Try.f3.params.toList args.toList ds p := hA0
  rw [Try.params3] at hA hval
  obtain ⟨v0, vs0, d0, ds0, p0, q0, hargs, rfl, rfl, h0, r0⟩ := trodAll_cons hA
  obtain ⟨v1, vs1, d1, ds1, p1, q1, rfl, rfl, rfl, h1, r1⟩ := trodAll_cons r0
  obtain ⟨rfl, rfl, rfl⟩ := trodAll_nil r1
  obtain rfl : args = #[v0, v1] := by cases args; simp_all
  obtain ⟨rfl, rfl⟩ := trodVars_none hV
  obtain ⟨A0, n0, c0, L0, rfl, hn0, hL0, hf0⟩ := Re.open_recs (hval 0 22 v0 rfl rfl) h0
  obtain ⟨A1, n1, c1, f1, rfl, hn1, hc1, hw1⟩ := open_strs Try.underlying23 Try.underlying9 (by kernel_rfl) (hval 1 23 v1 rfl rfl) h1
  clear hA0 hval0
  try simp only [List.append_nil] at hW'
  try simp only [List.nil_append] at hW'
  have hlt := fun x hx => hW'.lt x hx
  refine (walk P A0 n0 c0 L0 A1 n1 c1 f1 W hL0 hn0 hf0 hn1 hc1 hw1).mono fun e W' ⟨he, hg⟩ => ?_
  subst he
  refine ⟨_, rfl, post_mem hW' (fun _ _ _ => (trodAll_cons_mk (shut_bool Try.underlying4 _) trodAll_mk0)) (fun sp hsp => ?_) (fun _ => rfl) hg (ok_one (by kernel_rfl) rfl (okWide_bool_mk Try.underlying4 _))⟩
  have hall := (trodAll_cons_mk (arg_same (sp := sp) laid (by kernel_rfl) (of_decide_eq_true (by kernel_rfl)) h0 hg (by intro x hx; simp_all) hlt hsp) (trodAll_cons_mk (arg_same (sp := sp) laid (by kernel_rfl) (of_decide_eq_true (by kernel_rfl)) h1 hg (by intro x hx; simp_all) hlt hsp) trodAll_mk0))
  try simp only [List.append_nil] at hall
  try simp only [List.nil_append] at hall
  exact hall

theorem over {XI : Nat → Idx → Sp.Item} (P : Prg XI) : Rows.indexSumsRow.holds Try.pinned (OpenSpec.ofChange Rows.indexSumsSpec) :=
  OpenClaim.holds_of_wide 3 Try.f3 rfl rfl rfl rfl rfl rfl rfl ⟨rfl, rfl, rfl, rfl, rfl⟩ rfl rfl rfl rfl rfl (by kernel_rfl) Try.func3 (by kernel_rfl)
    (of_decide_eq_true (by kernel_rfl)) (by unfold Func.isWrapper; first | (rw [if_pos (by decide +kernel)]; kernel_rfl) | (rw [if_neg (by decide +kernel)]; exact ⟨rfl, rfl⟩))
    (fun os started H enc _ => lifted P os started H enc)

end Go.Proofs.Ytjdkgkllgapgjaa.indexSums
