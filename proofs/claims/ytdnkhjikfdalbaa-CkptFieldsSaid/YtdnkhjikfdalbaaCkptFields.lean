/- For every checkpoint the statement CkptFields about ckpt.Encode returns true, and changes nothing. Conditions: none. -/
import Derived.Test.YtdnkhjikfdalbaaCpP
import Derived.Test.YtdnkhjikfdalbaaCpO
import Derived.Deep.DeepCutAuto
import Derived.Deep.LoopGhost
import Derived.StillTailTactics
import Derived.WalkSmall
import Derived.IntWalk
import Derived.ProofKit
import Derived.OpenShut
import Derived.ShutString
import Derived.SizedLaws
namespace Go.Proofs.Ytdnkhjikfdalbaa.ckptFields
open Go.ChangeShapes Go.WideShapes Go.ChangeAt Go.RowKit Go.Lib Wd Cr
open Go.ChangeMaps (open_string shut_string)
set_option linter.unusedVariables false

theorem own : ownKnob Try.prog.godebug = none := by kernel_rfl
theorem laid : laidOutB Try.prog = true := by kernel_rfl

set_option maxRecDepth 100000 in
set_option maxHeartbeats 8000000 in
theorem no0 (g0 e0 l0 v0 : Int) (A0 : Option Addr) (m0 p0 : Nat) (B0 : Option Addr) (k0 q0 : Nat) (o0 n0 : List Int) (w : World) (hg0 : 0 ≤ g0 ∧ g0 < 18446744073709551616) (he0 : 0 ≤ e0 ∧ e0 < 4294967296) (hl0 : 0 ≤ l0 ∧ l0 < 18446744073709551616) (hv0 : 0 ≤ v0 ∧ v0 < 18446744073709551616) (sa0 : Sl w A0 m0 o0) (sb0 : Sl w B0 k0 n0) (hm0 : m0 ≤ maxLen ∧ k0 ≤ maxLen) (hp0 : m0 ≤ p0 ∧ k0 ≤ q0) (E0 : Hid (EncAt w g0 e0 l0 v0 A0 (cut20 m0) p0 B0 (cut20 k0) q0 ⟨#[]⟩ 5)) :
    Calls Try.prog 7 #[.agg #[.int .u64 g0, .int .u32 e0, .int .u64 l0, .int .u64 v0, .slice A0 m0 p0, .slice B0 k0 q0]] w fun e' w' => e' = .returned (.bool true) ∧ Below w.heap.size w w' := by
  have B := below1 w (.cells #[.int .u64 g0, .int .u32 e0, .int .u64 l0, .int .u64 v0, .slice A0 m0 p0, .slice B0 k0 q0] 26)
  have K0 : Blk (w.alloc (.cells #[.int .u64 g0, .int .u32 e0, .int .u64 l0, .int .u64 v0, .slice A0 m0 p0, .slice B0 k0 q0] 26)) (w.heap.size) 26 (csC g0 e0 l0 v0 A0 m0 p0 B0 k0 q0) := blk_new w 26 (csC g0 e0 l0 v0 A0 m0 p0 B0 k0 q0) (w.heap.size) (by simp)
  have C0 := Lib.hid (fun w => lawcut_any g0 e0 l0 v0 A0 m0 p0 B0 k0 q0 w hm0.1 hm0.2 hp0.1 hp0.2)
  obtain ⟨wa, EW⟩ : ∃ wa, Hid ((w.alloc (.cells #[.int .u64 g0, .int .u32 e0, .int .u64 l0, .int .u64 v0, .slice A0 m0 p0, .slice B0 k0 q0] 26)) = wa) := ⟨_, rfl⟩
  rw [EW.out] at B K0
  go_enter Try.func7, Try.ntmps7
  go_upto_region 1 with fail
  rw [EW.out]
  clear EW
  generalize cut20 m0 = c0 at *
  generalize cut20 k0 = d0 at *
  have HK := Lib.hid K0
  go_wp2_with (with_reducible refine load_c rfl (.tmp 1) rfl (w.heap.size) rfl HK.out ?_)
  refine (C0.out _).mono ?_
  rintro e' u0 ⟨rfl, hb⟩
  replace K0 := K0.later hb
  replace B := Wd.Ge.trans B hb
  clear hb
  clear HK
  have HK := Lib.hid K0
  go_upto_region 2 with (with_reducible refine store_c rfl (.tmp 1) (.tmp 7) rfl (w.heap.size) rfl rfl HK.out ?_)
  replace K0 := K0.row (csC g0 e0 l0 v0 A0 c0 p0 B0 d0 q0)
  replace B := below_set B (show w.heap.size ≤ w.heap.size by omega) (csC g0 e0 l0 v0 A0 c0 p0 B0 d0 q0)
  generalize u0.setRow (w.heap.size) (csC g0 e0 l0 v0 A0 c0 p0 B0 d0 q0) = z0 at *
  clear HK C0
  have HK := Lib.hid K0
  go_wp2_with (with_reducible refine load_c rfl (.tmp 1) rfl (w.heap.size) rfl HK.out ?_)
  refine (E0.out _ B).mono ?_
  rintro e' w1 ⟨rfl, hb⟩
  replace K0 := K0.later hb
  replace B := Wd.Ge.trans B hb
  clear hb
  clear HK E0
  go_wp2_with fail
  refine (fixed_any _).mono ?_
  rintro e' w2 ⟨rfl, hb⟩
  go_wp2_with fail
  go_ret
  exact ⟨rfl, Wd.Ge.trans B hb⟩

theorem get_r (X : ByteArray) (r : Int) (w : World) (hr : (getN X.data.toList : Int) = r) :
    Calls Try.prog 22 #[.string X] w fun e w' => e = .returned (.int .u64 r) ∧ Below w.heap.size w w' := by
  subst hr; exact (R1.get_any X w).mono fun _ _ ⟨he, hw⟩ => ⟨he, hw ▸ Below.refl _ _⟩
theorem ext_at (S : ByteArray) (i j : Nat) : (S.extract i j).data.toList = (S.data.toList.take j).drop i := by
  simp [ByteArray.data_extract, Array.toList_extract]
  rw [List.drop_take]
theorem g8 {n : Int} (h : 0 ≤ n ∧ n < 18446744073709551616) : ((getN (putL n.toNat 8) : Nat) : Int) = n := by
  rw [getN_putL _ 8 (by omega), Nat.mod_eq_of_lt (by omega)]; omega
theorem g4 {n : Int} (h : 0 ≤ n ∧ n < 4294967296) : ((getN (putL n.toNat 4) : Nat) : Int) = n := by
  rw [getN_putL _ 4 (by omega), Nat.mod_eq_of_lt (by omega)]; omega
theorem byte_of (S : ByteArray) (l : List UInt8) (hS : l = S.data.toList) (j x : Nat) (hx : byteAt l j = x) (h : j < S.size) : (S[j]'h).toNat = x := by
  rw [R1.byte_get, ← hS, hx]

set_option maxRecDepth 100000 in
set_option maxHeartbeats 16000000 in
theorem yes0 (g0 e0 l0 v0 : Int) (A0 : Option Addr) (m0 p0 : Nat) (B0 : Option Addr) (k0 q0 : Nat) (o0 n0 : List Int) (S : ByteArray) (w : World) (hg0 : 0 ≤ g0 ∧ g0 < 18446744073709551616) (he0 : 0 ≤ e0 ∧ e0 < 4294967296) (hl0 : 0 ≤ l0 ∧ l0 < 18446744073709551616) (hv0 : 0 ≤ v0 ∧ v0 < 18446744073709551616) (sa0 : Sl w A0 m0 o0) (sb0 : Sl w B0 k0 n0) (hm0 : m0 ≤ maxLen ∧ k0 ≤ maxLen) (hp0 : m0 ≤ p0 ∧ k0 ≤ q0) (E0 : Hid (EncAt w g0 e0 l0 v0 A0 (cut20 m0) p0 B0 (cut20 k0) q0 S 0)) (ok : okC (⟨g0, e0, l0, v0, o0.take 20, n0.take 20⟩ : Chk) = true) (HS : Hid (secL (⟨g0, e0, l0, v0, o0.take 20, n0.take 20⟩ : Chk) = S.data.toList)) :
    Calls Try.prog 7 #[.agg #[.int .u64 g0, .int .u32 e0, .int .u64 l0, .int .u64 v0, .slice A0 m0 p0, .slice B0 k0 q0]] w fun e' w' => e' = .returned (.bool true) ∧ Below w.heap.size w w' := by
  have zS : S.size = 128 := by rw [Go.Lib.size_eq, ← HS.out]; exact secL_len ok
  have ziS : (S.size : Int) = 128 := by omega
  have zn : ((S.size : Int) != 128) = false := by simp; omega
  obtain ⟨h1, h2, h3⟩ := okC_o ok
  have sg := (segB_iff _ _).1 ((okC_iff _).1 ok).2
  have la := sa0.cut
  have lb := sb0.cut
  have St := secL_stands (⟨g0, e0, l0, v0, o0.take 20, n0.take 20⟩ : Chk)
  have LL := secL_last ok
  rw [HS.out] at St LL
  simp only at h1 h2 h3 sg LL
  have hc : cut20 m0 = (o0.take 20).length := la.len
  have hd : cut20 k0 = (n0.take 20).length := lb.len
  obtain ⟨c, hcd⟩ : ∃ c, Hid (cut20 m0 = c ∧ cut20 k0 = c) := ⟨_, Lib.hid ⟨rfl, by omega⟩⟩
  have hc1 : 1 ≤ c := by rw [← hcd.out.1]; omega
  have hc16 : c ≤ 16 := by rw [← hcd.out.1]; omega
  obtain ⟨ba, oa, eA, hba, ca⟩ := la.cells (by omega)
  obtain ⟨bb, ob, eB, hbb, cb⟩ := lb.cells (by omega)
  have EA := Lib.hid eA
  have EB := Lib.hid eB
  clear eA eB
  have CA := Lib.hid ca
  have CB := Lib.hid cb
  have SG := Lib.hid sg
  have ST := Lib.hid St
  have HC := Lib.hid (show c = (o0.take 20).length by rw [← hcd.out.1]; exact hc)
  have HD := Lib.hid (show c = (n0.take 20).length by rw [← hcd.out.2]; exact hd)
  have b28 := byte_of S _ HS.out 28 c (by have := St.k; rw [HS.out, this, ← HC.out]; omega) (by omega)
  obtain ⟨G1, x1⟩ : ∃ G, S.extract 0 8 = G := ⟨_, rfl⟩
  obtain ⟨G2, x2⟩ : ∃ G, S.extract 120 128 = G := ⟨_, rfl⟩
  obtain ⟨G3, x3⟩ : ∃ G, S.extract 8 12 = G := ⟨_, rfl⟩
  obtain ⟨G4, x4⟩ : ∃ G, S.extract 12 20 = G := ⟨_, rfl⟩
  obtain ⟨G5, x5⟩ : ∃ G, S.extract 20 28 = G := ⟨_, rfl⟩
  have dl : S.data.toList.length = 128 := by rw [← Go.Lib.size_eq]; exact zS
  have v1 : Hid ((getN G1.data.toList : Int) = g0) := Lib.hid (by rw [← x1, ext_at, List.drop_zero, St.g]; exact g8 hg0)
  have v2 : Hid ((getN G2.data.toList : Int) = g0) := Lib.hid (by rw [← x2, ext_at, List.take_of_length_le (by omega), LL]; exact g8 hg0)
  have v3 : Hid ((getN G3.data.toList : Int) = e0) := Lib.hid (by rw [← x3, ext_at, List.drop_take, St.e]; exact g4 he0)
  have v4 : Hid ((getN G4.data.toList : Int) = l0) := Lib.hid (by rw [← x4, ext_at, List.drop_take, St.l]; exact g8 hl0)
  have v5 : Hid ((getN G5.data.toList : Int) = v0) := Lib.hid (by rw [← x5, ext_at, List.drop_take, St.v]; exact g8 hv0)
  obtain ⟨e0a, e0b⟩ := he0
  clear St LL sg ca cb la lb h1 h2 h3 hc hd dl
  have B := below1 w (.cells #[.int .u64 g0, .int .u32 e0, .int .u64 l0, .int .u64 v0, .slice A0 m0 p0, .slice B0 k0 q0] 26)
  have K0 : Blk (w.alloc (.cells #[.int .u64 g0, .int .u32 e0, .int .u64 l0, .int .u64 v0, .slice A0 m0 p0, .slice B0 k0 q0] 26)) (w.heap.size) 26 (csC g0 e0 l0 v0 A0 m0 p0 B0 k0 q0) := blk_new w 26 (csC g0 e0 l0 v0 A0 m0 p0 B0 k0 q0) (w.heap.size) (by simp)
  have C0 := Lib.hid (fun w => lawcut_any g0 e0 l0 v0 A0 m0 p0 B0 k0 q0 w hm0.1 hm0.2 hp0.1 hp0.2)
  obtain ⟨wa, EW⟩ : ∃ wa, Hid ((w.alloc (.cells #[.int .u64 g0, .int .u32 e0, .int .u64 l0, .int .u64 v0, .slice A0 m0 p0, .slice B0 k0 q0] 26)) = wa) := ⟨_, rfl⟩
  rw [EW.out] at B K0
  go_enter Try.func7, Try.ntmps7
  go_upto_region 1 with fail
  rw [EW.out]
  clear EW
  generalize cut20 m0 = c0 at *
  generalize cut20 k0 = d0 at *
  have HK := Lib.hid K0
  go_wp2_with (with_reducible refine load_c rfl (.tmp 1) rfl (w.heap.size) rfl HK.out ?_)
  refine (C0.out _).mono ?_
  rintro e' u0 ⟨rfl, hb⟩
  replace K0 := K0.later hb
  replace B := Wd.Ge.trans B hb
  clear hb
  clear HK
  have HK := Lib.hid K0
  go_upto_region 2 with (with_reducible refine store_c rfl (.tmp 1) (.tmp 7) rfl (w.heap.size) rfl rfl HK.out ?_)
  replace K0 := K0.row (csC g0 e0 l0 v0 A0 c0 p0 B0 d0 q0)
  replace B := below_set B (show w.heap.size ≤ w.heap.size by omega) (csC g0 e0 l0 v0 A0 c0 p0 B0 d0 q0)
  generalize u0.setRow (w.heap.size) (csC g0 e0 l0 v0 A0 c0 p0 B0 d0 q0) = z0 at *
  clear HK C0
  have HK := Lib.hid K0
  go_wp2_with (with_reducible refine load_c rfl (.tmp 1) rfl (w.heap.size) rfl HK.out ?_)
  refine (E0.out _ B).mono ?_
  rintro e' w1 ⟨rfl, hb⟩
  replace K0 := K0.later hb
  replace B := Wd.Ge.trans B hb
  clear hb
  clear HK E0
  have hc0 : c0 = c := hcd.out.1
  have hd0 : d0 = c := hcd.out.2
  have eA := EA.out
  have eB := EB.out
  clear EA EB
  clear hcd
  subst hd0
  subst hc0
  subst eA eB
  obtain ⟨c, rfl⟩ : ∃ c, c = c0 := ⟨c0, rfl⟩
  have I : Its w [(w.heap.size, csC g0 e0 l0 v0 (some ⟨ba, oa, none⟩) c p0 (some ⟨bb, ob, none⟩) c q0)] [] w1 := (Its.nil B).cons K0
  clear B K0
  go_upto_region 6 with fail
  go_loopg [5] 16 (fun gk s5 wr => ∃ i : Nat, i ≤ c ∧ gk = 16 - i ∧ s5 = .int .i64 i ∧ Hid (Its w [(w.heap.size, csC g0 e0 l0 v0 (some ⟨ba, oa, none⟩) c p0 (some ⟨bb, ob, none⟩) c q0)] [] wr))
  case atStart => exact ⟨0, by omega, rfl, rfl, Lib.hid I⟩
  case round =>
    obtain ⟨i, hi, hgk, rfl, II⟩ := hrel
    have HG := Lib.hid hgk
    clear hgk
    have c4 : wr.cell? ⟨w.heap.size, 4, none⟩ = some (.slice (some ⟨ba, oa, none⟩) c p0) := (II.out.at_ 0 rfl).cell 4
    have c5 : wr.cell? ⟨w.heap.size, 5, none⟩ = some (.slice (some ⟨bb, ob, none⟩) c q0) := (II.out.at_ 0 rfl).cell 5
    by_cases hlt : i < c
    · have hlti : (i : Int) < (c : Int) := by omega
      have hi16 : (i : Int) < 16 := by omega
      have ha := ((bcell II.out.b).1 ba (oa + i) hba).trans (CA.out i hlt)
      have hb := ((bcell II.out.b).1 bb (ob + i) hbb).trans (CB.out i hlt)
      obtain ⟨P1, P2⟩ := ST.out.p i (by show i < (o0.take 20).length; rw [← HC.out]; exact hlt)
      have o1 := SG.out.2.2.2.1 _ (nth_mem (l := o0.take 20) (i := i) (by rw [← HC.out]; exact hlt))
      have o2 := SG.out.2.2.2.2.1 _ (nth_mem (l := n0.take 20) (i := i) (by rw [← HD.out]; exact hlt))
      obtain ⟨x, hx⟩ := Int.eq_ofNat_of_zero_le o1.1
      obtain ⟨y, hy⟩ := Int.eq_ofNat_of_zero_le o2.1
      simp only [hx] at ha
      simp only [hy] at hb
      have bx := byte_of S _ HS.out (29 + 2 * i) x (by rw [HS.out, P1]; simp only [hx]; omega) (by omega)
      have by_ := byte_of S _ HS.out (30 + 2 * i) y (by rw [HS.out, P2]; simp only [hy]; omega) (by omega)
      have w1 : IntKind.i64.wrap (2 * (i : Int)) = 2 * (i : Int) := IntWalk.i64_in _ (by omega)
      have w2 : IntKind.i64.wrap (29 + 2 * (i : Int)) = 29 + 2 * (i : Int) := IntWalk.i64_in _ (by omega)
      have w3 : IntKind.i64.wrap (30 + 2 * (i : Int)) = 30 + 2 * (i : Int) := IntWalk.i64_in _ (by omega)
      have t2 : (29 + 2 * (i : Int)).toNat = 29 + 2 * i := by omega
      have t3 : (30 + 2 * (i : Int)).toNat = 30 + 2 * i := by omega
      have r2 : 0 ≤ 29 + 2 * (i : Int) := by omega
      have r3 : 0 ≤ 30 + 2 * (i : Int) := by omega
      have r4 : 29 + 2 * (i : Int) < 128 := by omega
      have r5 : 30 + 2 * (i : Int) < 128 := by omega
      have r6 : 29 + 2 * i < 128 := by omega
      have r7 : 30 + 2 * i < 128 := by omega
      have hx1 : (x : Int) < 16 := by omega
      have hy1 : (y : Int) ≤ 30 := by omega
      clear P1 P2 o1 o2 hx hy x1 x2 x3 x4 x5
      go_wp2_with fail
      go_region
      go_wp2_with fail
      go_roundg (16 - (i + 1))
      case measure => have := HG.out; omega
      case rel => exact ⟨i + 1, by omega, rfl, by go_num, Lib.hid II.out.drawn⟩
    · obtain rfl : i = c := by omega
      have hlti : ¬ (i : Int) < (i : Int) := by omega
      clear hlt
      go_wp2_with fail
      clear c4 c5
      have hne : Nonempty (In (Its w [(w.heap.size, csC g0 e0 l0 v0 (some ⟨ba, oa, none⟩) i p0 (some ⟨bb, ob, none⟩) i q0)] [])) := ⟨⟨_, II.out⟩⟩
      have fa0 : ∀ j : In (Its w [(w.heap.size, csC g0 e0 l0 v0 (some ⟨ba, oa, none⟩) i p0 (some ⟨bb, ob, none⟩) i q0)] []), j.W.cell? ⟨w.heap.size, 0, none⟩ = some (.int .u64 g0) := fun j => (j.h.at_ 0 rfl).cell 0
      have fa1 : ∀ j : In (Its w [(w.heap.size, csC g0 e0 l0 v0 (some ⟨ba, oa, none⟩) i p0 (some ⟨bb, ob, none⟩) i q0)] []), j.W.cell? ⟨w.heap.size, 1, none⟩ = some (.int .u32 e0) := fun j => (j.h.at_ 0 rfl).cell 1
      have fa2 : ∀ j : In (Its w [(w.heap.size, csC g0 e0 l0 v0 (some ⟨ba, oa, none⟩) i p0 (some ⟨bb, ob, none⟩) i q0)] []), j.W.cell? ⟨w.heap.size, 2, none⟩ = some (.int .u64 l0) := fun j => (j.h.at_ 0 rfl).cell 2
      have fa3 : ∀ j : In (Its w [(w.heap.size, csC g0 e0 l0 v0 (some ⟨ba, oa, none⟩) i p0 (some ⟨bb, ob, none⟩) i q0)] []), j.W.cell? ⟨w.heap.size, 3, none⟩ = some (.int .u64 v0) := fun j => (j.h.at_ 0 rfl).cell 3
      have fa4 : ∀ j : In (Its w [(w.heap.size, csC g0 e0 l0 v0 (some ⟨ba, oa, none⟩) i p0 (some ⟨bb, ob, none⟩) i q0)] []), j.W.cell? ⟨w.heap.size, 4, none⟩ = some (.slice (some ⟨ba, oa, none⟩) i p0) := fun j => (j.h.at_ 0 rfl).cell 4
      have fa5 : ∀ j : In (Its w [(w.heap.size, csC g0 e0 l0 v0 (some ⟨ba, oa, none⟩) i p0 (some ⟨bb, ob, none⟩) i q0)] []), j.W.cell? ⟨w.heap.size, 5, none⟩ = some (.slice (some ⟨bb, ob, none⟩) i q0) := fun j => (j.h.at_ 0 rfl).cell 5
      refine region_class (Its w [(w.heap.size, csC g0 e0 l0 v0 (some ⟨ba, oa, none⟩) i p0 (some ⟨bb, ob, none⟩) i q0)] []) (by kernel_rfl) (by kernel_rfl) II.out.drawn ?_
      repeat (go_big_quiet_step (first
        | (go_at_call 22; with_reducible exact class_call _ (fun hi => its_ge hi (get_r G1 g0 _ v1.out)))
        | (go_at_call 22; with_reducible exact class_call _ (fun hi => its_ge hi (get_r G2 g0 _ v2.out)))
        | (go_at_call 22; with_reducible exact class_call _ (fun hi => its_ge hi (get_r G3 e0 _ v3.out)))
        | (go_at_call 22; with_reducible exact class_call _ (fun hi => its_ge hi (get_r G4 l0 _ v4.out)))
        | (go_at_call 22; with_reducible exact class_call _ (fun hi => its_ge hi (get_r G5 v0 _ v5.out)))
        | (go_at_call 20; with_reducible exact class_call _ (fun hi => its_ge hi (fixed_any _)))))
      refine wpQuiet_nil ?_
      rintro _ ⟨j, rfl⟩
      go_wp2_with fail
      go_ret
      exact ⟨rfl, j.h.b⟩


theorem walk (g0 e0 l0 v0 : Int) (A0 : Option Addr) (m0 p0 : Nat) (B0 : Option Addr) (k0 q0 : Nat) (o0 n0 : List Int) (w : World) (hg0 : 0 ≤ g0 ∧ g0 < 18446744073709551616) (he0 : 0 ≤ e0 ∧ e0 < 4294967296) (hl0 : 0 ≤ l0 ∧ l0 < 18446744073709551616) (hv0 : 0 ≤ v0 ∧ v0 < 18446744073709551616) (sa0 : Sl w A0 m0 o0) (sb0 : Sl w B0 k0 n0) (hm0 : m0 ≤ maxLen ∧ k0 ≤ maxLen) (hp0 : m0 ≤ p0 ∧ k0 ≤ q0) :
    Calls Try.prog 7 #[.agg #[.int .u64 g0, .int .u32 e0, .int .u64 l0, .int .u64 v0, .slice A0 m0 p0, .slice B0 k0 q0]] w fun e' w' => e' = .returned (.bool true) ∧ Below w.heap.size w w' := by
  have f0 : Fits (⟨g0, e0, l0, v0, o0.take 20, n0.take 20⟩ : Chk) := fitsA hg0 he0 hl0 hv0
  cases h0 : okC (⟨g0, e0, l0, v0, o0.take 20, n0.take 20⟩ : Chk)
  · exact no0 g0 e0 l0 v0 A0 m0 p0 B0 k0 q0 o0 n0 w hg0 he0 hl0 hv0 sa0 sb0 hm0 hp0 (enc_no sa0.cut sb0.cut (cut20_le _) hg0.1 hl0.1 h0)
  · exact yes0 g0 e0 l0 v0 A0 m0 p0 B0 k0 q0 o0 n0 ⟨(secL (⟨g0, e0, l0, v0, o0.take 20, n0.take 20⟩ : Chk)).toArray⟩ w hg0 he0 hl0 hv0 sa0 sb0 hm0 hp0 (enc_yes sa0.cut sb0.cut f0 h0 (by simp)) h0 (Lib.hid (by simp))

set_option maxRecDepth 100000 in
theorem lifted (os : Os) (started : os.Started) (H : Type) (enc : TypeId × Value → H) :
    ReturnsInHanded {} Try.checked os 7 .any (Rows.ckptFieldsSpec.pre6 enc Try.prog Try.f7 Rows.ckptFieldsRow.domain false) (Rows.ckptFieldsSpec.post enc Try.prog Try.f7 false true false false) := by
  refine returnsInHanded_of_change (C := Try.checked) own started (by kernel_rfl) Try.func7
    (ChangeSpec.witness6 (enc := enc) (C := Try.checked) false ⟨#[], #[.agg #[.int .u64 0, .int .u32 0, .int .u64 0, .int .u64 0, .slice none 0 0, .slice none 0 0]], []⟩ 8 (by kernel_rfl) (by kernel_rfl) (by kernel_rfl) (by kernel_rfl)) ?_
  intro W base args ds gs before hval0 hW hcnd _
  have hval : ∀ (j : Nat) t v, Try.f7.params[j]? = some t → args[j]? = some v → Value.okWide Try.prog W .any base t v := hval0
  have hW' := hW
  obtain ⟨p, q, hA0, hV, rfl, hfz, hnd⟩ := hW
  have hA : DataW.TrodAll enc Try.prog W 0 (fun _ => true) true Try.f7.params.toList args.toList ds p := hA0
  rw [Try.params7] at hA hval
  obtain ⟨v0, vs0, d0, ds0, p0, q0, hargs, rfl, rfl, h0, r0⟩ := trodAll_cons hA
  obtain ⟨rfl, rfl, rfl⟩ := trodAll_nil r0
  obtain rfl : args = #[v0] := by cases args; simp_all
  obtain ⟨rfl, rfl⟩ := trodVars_none hV
  obtain ⟨g0, e0, l0, v0, A0, m0, p0, B0, k0, q0, o0, n0, rfl, hg0, he0, hl0, hv0, sa0, sb0, hm0, hp0⟩ := open_chk (hval 0 26 v0 rfl rfl) h0
  clear hA0 hval0
  try simp only [List.append_nil] at hW'
  try simp only [List.nil_append] at hW'
  have hlt := fun x hx => hW'.lt x hx
  refine (walk g0 e0 l0 v0 A0 m0 p0 B0 k0 q0 o0 n0 W hg0 he0 hl0 hv0 sa0 sb0 hm0 hp0).mono fun e W' ⟨he, hg⟩ => ?_
  subst he
  refine ⟨_, rfl, post_mem hW' (fun _ _ _ => (trodAll_cons_mk (shut_bool Try.underlying4 _) trodAll_mk0)) (fun sp hsp => ?_) (fun _ => rfl) hg (ok_one (by kernel_rfl) rfl (okWide_bool_mk Try.underlying4 _))⟩
  have hall := (trodAll_cons_mk (arg_same (sp := sp) laid (by kernel_rfl) (of_decide_eq_true (by kernel_rfl)) h0 hg (by intro x hx; simp_all) hlt hsp) trodAll_mk0)
  try simp only [List.append_nil] at hall
  try simp only [List.nil_append] at hall
  exact hall

theorem over : Rows.ckptFieldsRow.holds Try.pinned (OpenSpec.ofChange Rows.ckptFieldsSpec) :=
  OpenClaim.holds_of_wide 7 Try.f7 rfl rfl rfl rfl rfl rfl rfl ⟨rfl, rfl, rfl, rfl, rfl⟩ rfl rfl rfl rfl rfl (by kernel_rfl) Try.func7 (by kernel_rfl)
    (of_decide_eq_true (by kernel_rfl)) (by unfold Func.isWrapper; first | (rw [if_pos (by decide +kernel)]; kernel_rfl) | (rw [if_neg (by decide +kernel)]; exact ⟨rfl, rfl⟩))
    (fun os started H enc _ => lifted os started H enc)

theorem proved : Rows.CkptFieldsSaid := over
#print axioms proved
end Go.Proofs.Ytdnkhjikfdalbaa.ckptFields
