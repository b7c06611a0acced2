/- The document's Sessions. -/
import Derived.Test.YtckakkocblkcoaaReG
namespace Go.Proofs.Ytckakkocblkcoaa.Re
open Go.RowKit Go.Lib
open Sp
set_option linter.unusedVariables false
set_option maxRecDepth 100000

def lives (now : Int) (r : Rec) : Bool := decide (r.k = 1) && decide (now < r.d)
def ses (r : Rec) : Ses := ⟨r.i, r.a, r.d⟩
/-- The sessions that live. -/
def sesL (L : List Rec) (now : Int) : List Ses := (L.filter (lives now)).map ses
theorem sesL_yes {L : List Rec} {i : Nat} {r : Rec} {now : Int} (h : L[i]? = some r) (hl : lives now r = true) : sesL (L.take (i + 1)) now = sesL (L.take i) now ++ [ses r] := by
  unfold sesL
  rw [take_one h, List.filter_append, List.map_append]
  simp [hl]
theorem sesL_no {L : List Rec} {i : Nat} {r : Rec} {now : Int} (h : L[i]? = some r) (hl : lives now r = false) : sesL (L.take (i + 1)) now = sesL (L.take i) now := by
  unfold sesL
  rw [take_one h, List.filter_append, List.map_append]
  simp [hl]
theorem sesL_len (L : List Rec) (now : Int) : (sesL L now).length ≤ L.length := by
  unfold sesL
  rw [List.length_map]
  exact List.length_filter_le _ _
theorem newest_len (L : List Rec) : (newest L).length ≤ L.length := docN_len L _
set_option maxHeartbeats 32000000 in
theorem rsessions_any {w : World} {A : Option Addr} {n p : Nat} {L : List Rec} (now : Int) (h : RR w A n L) (hn : n ≤ 400) :
    Calls Try.prog 17 #[.slice A n p, .int .u64 now] w fun e w' => ∃ A' p', e = .returned (.slice A' (sesL (newest L) now).length p') ∧ SR w' A' (sesL (newest L) now).length (sesL (newest L) now) ∧ Below w.heap.size w w' := by
  have HR := Lib.hid h
  have HN := Lib.hid hn
  have S1 : Sp.Sep w (w.alloc (.cells #[] 61)) [rowS 61 3 (.slice (some ⟨w.heap.size, 0, none⟩) 0 0) 0 []] := rows_lit (Sp.Sep.nil (Below.refl _ _)) 61 3
  have HNW := Lib.hid (fun W (hb : Below w.heap.size w W) => rnewest_s (p := p) (HR.out.later hb) HN.out)
  clear h hn
  go_enter Try.func17, Try.ntmps17
  have HC := Lib.hid (HNW.out _ S1.below)
  have HI0 := Lib.hid S1
  clear S1 HNW
  obtain ⟨b0, e0⟩ : ∃ z, w.heap.size = z := ⟨_, rfl⟩
  rw [e0] at HI0
  go_wp2_with fail
  clear e0
  refine HC.out.mono ?_
  rintro e' w2 ⟨g2, p2, rfl, hS⟩
  have HS2 := Lib.hid (sep_join HI0.out hS)
  clear HI0 HC hS
  obtain ⟨N, eN⟩ : ∃ z, newest L = z := ⟨_, rfl⟩
  have hNl : N.length ≤ n := by rw [← eN, HR.out.len]; exact newest_len L
  rw [eN] at HS2 ⊢
  have HEN := Lib.hid eN
  clear eN
  obtain ⟨n2, e2⟩ : ∃ z, N.length = z := ⟨_, rfl⟩
  rw [e2] at HS2 hNl ⊢
  have HN2 := Lib.hid e2
  clear e2
  go_wp2_with fail
  go_loopg [5, 7] n2 (fun gk s5 s7 wr => ∃ (i : Nat) (A' : Option Addr) (p' : Nat), i ≤ n2 ∧ gk = n2 - i ∧ s5 = .slice A' (sesL (N.take i) now).length p' ∧ s7 = .int .i64 (i : Nat) ∧ Hid (Sp.Sep w wr [rowS 61 3 (.slice A' (sesL (N.take i) now).length p') (sesL (N.take i) now).length ((sesL (N.take i) now).flatMap seC), rowS 50 7 (.slice (some ⟨g2, 0, none⟩) n2 p2) n2 (N.flatMap rcC)]))
  case atStart => exact ⟨0, _, _, by omega, rfl, rfl, rfl, HS2⟩
  case round =>
    obtain ⟨i, A', p', hi, hgk, rfl, rfl, HI⟩ := hrel
    have HGK := Lib.hid hgk
    clear hgk HS2
    by_cases hlt : i < n2
    · have hli : (i : Int) < (n2 : Int) := by omega
      obtain ⟨r, hr⟩ : ∃ r, N[i]? = some r := ⟨_, List.getElem?_eq_getElem (by rw [HN2.out]; exact hlt)⟩
      have R := row_rc HI.out (k := 1) rfl HN2.out.symm hr
      have x2 := R.c2
      have x4 := R.c4
      have x5 := R.c5
      have x6 := R.c6
      have wi : IntKind.i64.wrap ((i : Int) + 1) = (i : Int) + 1 := IntWalk.i64_in _ (by have := HN.out; omega)
      obtain ⟨m, em⟩ : ∃ m, (sesL (N.take i) now).length = m := ⟨_, rfl⟩
      have hm : m < 1000 := by
        have h1 := sesL_len (N.take i) now
        rw [em, List.length_take] at h1
        have := HN.out
        omega
      have HM := Lib.hid em
      have S := HI.out
      rw [em] at S ⊢
      obtain ⟨bl, hbl⟩ : ∃ z, lives now r = z := ⟨_, rfl⟩
      have HBL := Lib.hid hbl
      have HRR := Lib.hid hr
      clear em R hr hbl
      by_cases hv : r.k = 1 ∧ now < r.d
      · obtain rfl : bl = true := by rw [← HBL.out]; simp [lives, hv]
        obtain ⟨hv1, hv2⟩ := hv
        have hv3 : ¬ r.d ≤ now := by omega
        have q1 : ((r.k : Int) == 1) = true := by rw [hv1]; rfl
        obtain ⟨v', W5, hrun, S5⟩ := rows_pushD S (k := 0) rfl Try.underlying31 dses_infos rfl (by decide) (by decide) hm (seC_len (ses r)) (se_one (ses r))
        obtain ⟨A9, p9, rfl⟩ := rows_slice S5 (k := 0) rfl
        have H15 := Lib.hid S5
        clear S5 S
        go_upto_region 6 with fail
        go_region_law (refine push_step rfl (.tmp 32) (.tmp 49) rfl rfl _ _ rfl rfl hrun ?_)
        all_goals
          clear x2 x4 x5 x6 hrun
          have E2 : m + 1 = (sesL (N.take (i + 1)) now).length := by rw [sesL_yes HRR.out HBL.out, List.length_append, HM.out]; rfl
          have H16 : Hid (Sp.Sep w W5 [rowS 61 3 (.slice A9 (sesL (N.take (i + 1)) now).length p9) (sesL (N.take (i + 1)) now).length ((sesL (N.take (i + 1)) now).flatMap seC), rowS 50 7 (.slice (some ⟨g2, 0, none⟩) n2 p2) n2 (N.flatMap rcC)]) := Lib.hid (by
            rw [← E2, sesL_yes HRR.out HBL.out, List.flatMap_append]
            simpa using H15.out)
          go_wp2_with fail
          go_roundg (n2 - (i + 1))
          case measure => have := HGK.out; omega
          case rel => exact ⟨i + 1, A9, p9, by omega, by have := HGK.out; omega, by first | rfl | rw [E2], by go_num, H16⟩
      · obtain rfl : bl = false := by
          rw [← HBL.out]
          unfold lives
          by_cases h1 : r.k = 1
          · have : ¬ now < r.d := fun h2 => hv ⟨h1, h2⟩
            simp [this]
          · simp [h1]
        clear S
        by_cases h1 : r.k = 1
        · have hv3 : r.d ≤ now := by
            have : ¬ now < r.d := fun h2 => hv ⟨h1, h2⟩
            omega
          have q1 : ((r.k : Int) == 1) = true := by rw [h1]; rfl
          clear hv h1
          go_wp2_with fail
          go_roundg (n2 - (i + 1))
          case measure => have := HGK.out; omega
          case rel => exact ⟨i + 1, A', p', by omega, by have := HGK.out; omega, by rw [sesL_no HRR.out HBL.out, HM.out], by go_num, Lib.hid (by rw [sesL_no HRR.out HBL.out]; exact HI.out)⟩
        · have q1 : ((r.k : Int) == 1) = false := by simpa using h1
          clear hv h1
          go_wp2_with fail
          go_roundg (n2 - (i + 1))
          case measure => have := HGK.out; omega
          case rel => exact ⟨i + 1, A', p', by omega, by have := HGK.out; omega, by rw [sesL_no HRR.out HBL.out, HM.out], by go_num, Lib.hid (by rw [sesL_no HRR.out HBL.out]; exact HI.out)⟩
    · obtain rfl : n2 = i := by omega
      have hti : N.take n2 = N := by rw [← HN2.out, List.take_length]
      have H1 := HI.out
      rw [hti] at H1
      have HF := Lib.hid (SR.of_row (L := sesL N now) H1 (k := 0) rfl rfl)
      have HB := Lib.hid HI.out.below
      rw [hti]
      clear HI hti H1
      go_wp2_with fail
      go_ret
      rw [HEN.out]
      first | exact ⟨A', p', rfl, HF.out, HB.out⟩ | exact ⟨A', ⟨p', rfl⟩, HF.out, HB.out⟩
end Go.Proofs.Ytckakkocblkcoaa.Re
