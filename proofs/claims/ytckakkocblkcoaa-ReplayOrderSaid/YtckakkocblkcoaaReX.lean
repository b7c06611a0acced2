/- The program's Sessions. -/
import Derived.Test.YtckakkocblkcoaaReV
namespace Go.Proofs.Ytckakkocblkcoaa.Re
open Go.RowKit Go.Lib Go.Maps
open Sp
set_option linter.unusedVariables false
set_option maxRecDepth 100000

set_option maxHeartbeats 32000000 in
theorem sessions_by (HS : SortedC) {w : World} {A : Option Addr} {n : Nat} (p : Nat) {L : List Rec} (now : Int) (h : RR w A n L) (hn : n ≤ 200) (hf : Fine L) :
    Calls Try.prog 16 #[.slice A n p, .int .u64 now] w fun e w' => ∃ A' p', e = .returned (.slice A' (sesL (newest L) now).length p') ∧ SR w' A' (sesL (newest L) now).length (sesL (newest L) now) ∧ Below w.heap.size w w' := by
  have HR := Lib.hid h
  have HN := Lib.hid hn
  have HC := Lib.hid (newest_by HS p h hn hf)
  clear h hn hf HS
  go_enter Try.func16, Try.ntmps16
  go_wp2_with fail
  refine HC.out.mono ?_
  rintro e' w2 ⟨A2, p2, rfl, hr2, hb2⟩
  have HI0 : Hid (Sp.Sep w2 w2 [rowS 46 3 (.slice none 0 0) 0 []]) := Lib.hid (rows_nil (Sp.Sep.nil (Below.refl _ _)) 46 3)
  have HB2 := Lib.hid hb2
  have HRN := Lib.hid hr2
  clear hr2 hb2 HC
  obtain ⟨N, eN⟩ : ∃ z, newest L = z := ⟨_, rfl⟩
  have hNl : N.length ≤ n := by rw [← eN, HR.out.len]; exact newest_len L
  rw [eN] at HRN ⊢
  have HEN := Lib.hid eN
  clear eN HR
  obtain ⟨n2, e2⟩ : ∃ z, N.length = z := ⟨_, rfl⟩
  rw [e2] at HRN hNl ⊢
  have HN2 := Lib.hid e2
  have HNL := Lib.hid hNl
  clear e2 hNl
  go_wp2_with fail
  go_loopg [5, 11] n2 (fun gk s5 s7 wr => ∃ (i : Nat) (A' : Option Addr) (p' : Nat), i ≤ n2 ∧ gk = n2 - i ∧ s5 = .slice A' (sesL (N.take i) now).length p' ∧ s7 = .int .i64 (i : Nat) ∧ Hid (Sp.Sep w2 wr [rowS 46 3 (.slice A' (sesL (N.take i) now).length p') (sesL (N.take i) now).length ((sesL (N.take i) now).flatMap seC)]))
  case atStart => exact ⟨0, _, _, by omega, rfl, rfl, rfl, HI0⟩
  case round =>
    obtain ⟨i, A', p', hi, hgk, rfl, rfl, HI⟩ := hrel
    have HGK := Lib.hid hgk
    clear hgk HI0
    by_cases hlt : i < n2
    · have hli : (i : Int) < (n2 : Int) := by omega
      obtain ⟨r, hr⟩ : ∃ r, N[i]? = some r := ⟨_, List.getElem?_eq_getElem (by rw [HN2.out]; exact hlt)⟩
      obtain ⟨g, o, rfl, hc⟩ := HRN.out.rc (by omega)
      have R := (hc i r hr).later HI.out.below
      have x0 := R.c0
      have x1 := R.c1
      have x2 := R.c2
      have x3 := R.c3
      have x4 := R.c4
      have x5 := R.c5
      have x6 := R.c6
      have wi : IntKind.i64.wrap ((i : Int) + 1) = (i : Int) + 1 := IntWalk.i64_in _ (by have := HN.out; have := HNL.out; omega)
      have S1 := HI.out.alloc (.cells (rcA r) 42)
      have B1 : Sp.Blk (wr.alloc (.cells (rcA r) 42)) wr.heap.size 42 (rcA r) := Sp.Blk.new wr _ _
      go_upto_region 5 with fail
      change Code.wp _ _ _ _ (wr.alloc (.cells (rcA r) 42))
      clear x0 x1 x2 x3 x4 x5 x6 R hc
      have RB := RC.blk B1
      have S := S1
      clear S1 B1
      generalize wr.alloc (.cells (rcA r) 42) = w4 at *
      obtain ⟨b, eb⟩ : ∃ z, wr.heap.size = z := ⟨_, rfl⟩
      rw [eb] at RB ⊢
      clear eb
      have x2 := RB.c2
      have x4 := RB.c4
      have x5 := RB.c5
      have x6 := RB.c6
      obtain ⟨m, em⟩ : ∃ m, (sesL (N.take i) now).length = m := ⟨_, rfl⟩
      have hm : m < 1000 := by
        have h1 := sesL_len (N.take i) now
        rw [em, List.length_take] at h1
        have := HN.out
        have := HNL.out
        omega
      have HM := Lib.hid em
      have HS4 := Lib.hid S
      rw [em] at S ⊢
      obtain ⟨bl, hbl⟩ : ∃ z, lives now r = z := ⟨_, rfl⟩
      have HBL := Lib.hid hbl
      have HRR := Lib.hid hr
      clear em RB hr hbl
      by_cases hv : r.k = 1 ∧ now < r.d
      · obtain rfl : bl = true := by rw [← HBL.out]; simp [lives, hv]
        obtain ⟨hv1, hv2⟩ := hv
        have hv3 : ¬ r.d ≤ now := by omega
        have q1 : ((r.k : Int) == 1) = true := by rw [hv1]; rfl
        have HZS : (Value.agg #[.string ⟨#[]⟩, .string ⟨#[]⟩, .int .u64 0]).cells.size = 3 := rfl
        have HLN := seC_len (ses r)
        have HC1 := se_one (ses r)
        go_upto_region 7 with (refine wp_append_s (cs := seC (ses r)) pses_infos HZS (by decide) (by decide) Try.underlying33 rfl (.tmp 24) (.tmp 32) rfl rfl rfl S 0 rfl hm HLN HC1 ?_; intro v3 w15 h15; clear HZS HLN HC1 x2 x4 x5 x6; obtain ⟨A9, p9, rfl⟩ := rows_slice h15 (k := 0) rfl; have H15 := Lib.hid h15; clear h15 S)
        have E2 : m + 1 = (sesL (N.take (i + 1)) now).length := by rw [sesL_yes HRR.out HBL.out, List.length_append, HM.out]; rfl
        have H16 : Hid (Sp.Sep w2 w15 [rowS 46 3 (.slice A9 (sesL (N.take (i + 1)) now).length p9) (sesL (N.take (i + 1)) now).length ((sesL (N.take (i + 1)) now).flatMap seC)]) := Lib.hid (by
          rw [← E2, sesL_yes HRR.out HBL.out, List.flatMap_append]
          simpa using H15.out)
        clear H15
        go_wp2_with fail
        go_roundg (n2 - (i + 1))
        case measure => have := HGK.out; omega
        case rel => exact ⟨i + 1, A9, p9, by omega, by have := HGK.out; omega, by first | rfl | rw [E2], by go_num, H16⟩
      · obtain rfl : bl = false := by
          rw [← HBL.out]
          unfold lives
          by_cases h1 : r.k = 1
          · have : ¬ now < r.d := fun h2 => hv ⟨h1, h2⟩
            simp [this]
          · simp [h1]
        clear S
        have H16 : Hid (Sp.Sep w2 w4 [rowS 46 3 (.slice A' (sesL (N.take (i + 1)) now).length p') (sesL (N.take (i + 1)) now).length ((sesL (N.take (i + 1)) now).flatMap seC)]) := Lib.hid (by rw [sesL_no HRR.out HBL.out]; exact HS4.out)
        by_cases h1 : r.k = 1
        · have hv3 : r.d ≤ now := by
            have : ¬ now < r.d := fun h2 => hv ⟨h1, h2⟩
            omega
          have q1 : ((r.k : Int) == 1) = true := by rw [h1]; rfl
          clear hv h1 HS4
          go_wp2_with fail
          go_roundg (n2 - (i + 1))
          case measure => have := HGK.out; omega
          case rel => exact ⟨i + 1, A', p', by omega, by have := HGK.out; omega, by rw [sesL_no HRR.out HBL.out, HM.out], by go_num, H16⟩
        · have q1 : ((r.k : Int) == 1) = false := by simpa using h1
          clear hv h1 HS4
          go_wp2_with fail
          go_roundg (n2 - (i + 1))
          case measure => have := HGK.out; omega
          case rel => exact ⟨i + 1, A', p', by omega, by have := HGK.out; omega, by rw [sesL_no HRR.out HBL.out, HM.out], by go_num, H16⟩
    · obtain rfl : n2 = i := by omega
      have hti : N.take n2 = N := by rw [← HN2.out, List.take_length]
      have H1 := HI.out
      rw [hti] at H1
      have HF := Lib.hid (SR.of_row (L := sesL N now) H1 (k := 0) rfl rfl)
      have HB := Lib.hid (HB2.out.trans (HI.out.below.mono HB2.out.size))
      rw [hti]
      clear HI hti H1
      go_wp2_with fail
      go_ret
      rw [HEN.out]
      first | exact ⟨A', p', rfl, HF.out, HB.out⟩ | exact ⟨A', ⟨p', rfl⟩, HF.out, HB.out⟩
end Go.Proofs.Ytckakkocblkcoaa.Re
