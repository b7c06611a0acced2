/- For every list of texts, every list of bytes and every two numbers the statement DiskKeeps about disk.Disk returns true, and changes nothing that was there. Conditions: none. -/
import Derived.Test.YtdfgidghiooikaaDiskI
import Derived.Test.YtdfgidghiooikaaArr
import Derived.StillTailTactics
import Derived.IntWalk
import Derived.Deep.AppendLies
import Derived.WalkSmall
import Derived.Deep.DeepCutAuto
import Derived.Deep.LoopGhost
import Derived.ProofKit
import Derived.OpenShut
import Derived.ShutString
import Derived.SizedLaws
namespace Go.Proofs.Ytdfgidghiooikaa.diskKeeps
open Go.ChangeShapes Go.WideShapes Go.ChangeAt Go.RowKit Go.Lib Go.MapKept
open Go.ChangeMaps (open_string shut_string)
set_option linter.unusedVariables false

theorem own : ownKnob Try.prog.godebug = none := by kernel_rfl
theorem laid : laidOutB Try.prog = true := by kernel_rfl

/-- What sector i is written first. -/
def src (ln : Nat) (lf : Nat → ByteArray) (i : Nat) : ByteArray := if i < ln then fullS (lf i) else zeroS
theorem src_size (ln : Nat) (lf : Nat → ByteArray) (i : Nat) : (src ln lf i).size = 128 := by
  unfold src; split
  · exact fullS_size _
  · exact zeroS_size
def sA (sr : Nat → ByteArray) : Nat → St
  | 0 => St.new 8
  | k + 1 => (sA sr k).write (k : Int) (sr k)
theorem sA_set (sr : Nat → ByteArray) : ∀ k, (sA sr k).set = false ∧ (sA sr k).size = 8 ∧ (sA sr k).pend.length = k
  | 0 => ⟨rfl, rfl, rfl⟩
  | k + 1 => by
    obtain ⟨h1, h2, h3⟩ := sA_set sr k
    refine ⟨h1, h2, ?_⟩
    show ((sA sr k).pend ++ [((k : Int), sr k)]).length = k + 1
    rw [List.length_append, h3]; rfl
theorem sA_cur (sr : Nat → ByteArray) : ∀ (k i : Nat), i < k → (sA sr k).cur (i : Int) = sr i
  | k + 1, i, h => by
    show ((sA sr k).write (k : Int) (sr k)).cur (i : Int) = sr i
    rw [write_cur]
    by_cases e : i = k
    · subst e; rw [if_pos rfl]
    · rw [if_neg (by omega)]; exact sA_cur sr k i (by omega)
def wA (sr : Nat → ByteArray) (k : Nat) : List Value := (List.range k).map fun i => Value.string (sr i)
theorem wA_succ (sr : Nat → ByteArray) (k : Nat) : wA sr (k + 1) = wA sr k ++ [.string (sr k)] := by simp [wA, List.range_succ]

/-- What sector i holds behind a crash that tears one of the first k writes. -/
def wk (h : Int → ByteArray) (torn : Int) (q : Nat) (l : List (Int × ByteArray)) (k : Nat) (i : Int) : ByteArray := crashTo (fun _ => false) torn q l h k i
def wB (h : Int → ByteArray) (torn : Int) (q : Nat) (l : List (Int × ByteArray)) (k : Nat) : List Value := (List.range 8).map fun (i : Nat) => Value.string (wk h torn q l k (i : Int))
theorem wB_at (h : Int → ByteArray) (torn : Int) (q : Nat) (l : List (Int × ByteArray)) (k i : Nat) (hi : i < 8) : (wB h torn q l k)[i]? = some (.string (wk h torn q l k (i : Int))) := by
  simp [wB, hi]
theorem wk_step (h : Int → ByteArray) (torn : Int) (q : Nat) (l : List (Int × ByteArray)) (m : Int) (S : ByteArray) (i : Int) :
    wk h torn q (l ++ [(m, S)]) (l.length + 1) i = if (l.length : Int) = torn ∧ i = m then mix q S (wk h torn q l l.length i) else wk h torn q l l.length i := by
  unfold wk
  rw [crashTo_step (p := (m, S)) (by simp), crashTo_append l [(m, S)] l.length (Nat.le_refl _)]
  simp only [Bool.false_eq_true, if_false]
  by_cases e : (l.length : Int) = torn
  · rw [if_pos e]
    unfold do1
    by_cases ei : i = m
    · rw [if_pos ei, if_pos ⟨e, ei⟩]
    · rw [if_neg ei, if_neg (fun h => ei h.2)]
  · rw [if_neg e, if_neg (fun h => e h.1)]
theorem wB_same (h : Int → ByteArray) (torn : Int) (q : Nat) (l : List (Int × ByteArray)) (m : Int) (S : ByteArray) (ht : ¬ (l.length : Int) = torn) : wB h torn q (l ++ [(m, S)]) (l.length + 1) = wB h torn q l l.length := by
  unfold wB
  apply List.map_congr_left
  intro i _
  rw [wk_step, if_neg (fun h => ht h.1)]
theorem wB_torn (h : Int → ByteArray) (torn : Int) (q : Nat) (l : List (Int × ByteArray)) (j : Nat) (hj : j < 8) (S : ByteArray) (ht : (l.length : Int) = torn) :
    wB h torn q (l ++ [((j : Int), S)]) (l.length + 1) = (wB h torn q l l.length).set j (.string (mix q S (wk h torn q l l.length (j : Int)))) := by
  apply List.ext_getElem?
  intro i
  by_cases hi : i < 8
  · rw [wB_at _ _ _ _ _ i hi, wk_step, List.getElem?_set]
    by_cases e : j = i
    · subst e
      rw [if_pos rfl, if_pos ⟨ht, rfl⟩, if_pos (by simp [wB, hj])]
    · rw [if_neg e, if_neg (fun h => e (by omega)), wB_at _ _ _ _ _ i hi]
  · rw [List.getElem?_eq_none (by simp [wB]; omega), List.getElem?_eq_none (by simp [wB]; omega)]
theorem wk_size {h : Int → ByteArray} {torn : Int} {q : Nat} {l : List (Int × ByteArray)} (hh : ∀ i, (h i).size = 128) (hl : ∀ p ∈ l, p.2.size = 128) (k : Nat) (i : Int) : (wk h torn q l k i).size = 128 := crashTo_size hh hl k i
theorem clampN_le (a : Int) : clampN a ≤ 128 := by unfold clampN; split; omega; split <;> omega
def KSt (s : St) (k : Nat) (h : Int → ByteArray) : Prop := s.set = false ∧ s.size = 8 ∧ s.pend.length = k ∧ s.held = h
theorem KSt.write {s : St} {k : Nat} {h : Int → ByteArray} (hs : KSt s k h) (i : Int) (x : ByteArray) : KSt (s.write i x) (k + 1) h :=
  ⟨hs.1, hs.2.1, by show (s.pend ++ [(i, x)]).length = k + 1; rw [List.length_append, hs.2.2.1]; rfl, hs.2.2.2⟩
theorem wA_8 (sr : Nat → ByteArray) (h : Int → ByteArray) (torn : Int) (q : Nat) (hh : ∀ i : Nat, i < 8 → h (i : Int) = sr i) : wA sr 8 = wB h torn q [] 0 := by
  unfold wA wB
  apply List.map_congr_left
  intro i hi
  show _ = Value.string (h (i : Int))
  rw [hh i (List.mem_range.1 hi)]

set_option maxRecDepth 100000 in
set_option maxHeartbeats 8000000 in
theorem walk (L : Option Addr) (ln lc : Nat) (lf : Nat → ByteArray) (A : Option Addr) (n c : Nat) (f : Nat → Int) (n0 n1 : Int) (W : World) (hln : ln ≤ maxLen) (hlc : CellsIn W L ln (fun j => .string (lf j))) (hlz : ∀ j, j < ln → (lf j).size ≤ maxLen)
    (hn : n ≤ maxLen) (hc : CellsIn W A n (fun j => .int .u8 (f j))) (hw : ∀ j, j < n → (Lit.int .u8 (f j)).wf = true) (wn0 : (Lit.int .i64 n0).wf = true) (wn1 : (Lit.int .i64 n1).wf = true) :
    Calls Try.prog 4 #[.slice L ln lc, .slice A n c, .agg #[.int .i64 n0, .int .i64 n1]] W fun e w' => e = .returned (.bool true) ∧ Below W.heap.size W w' := by
  have hnz : (n : Int) ≤ 9223372036854775807 := by unfold maxLen at hn; omega
  have hlnz : (ln : Int) ≤ 9223372036854775807 := by unfold maxLen at hln; omega
  clear hn hln wn0 wn1
  have hWW : Below W.heap.size W (W.alloc (.cells #[.int .i64 n0, .int .i64 n1] 42)) := (Below.refl _ _).alloc (Nat.le_refl _) _
  have hb0 := Blk.new W 42 #[.int .i64 n0, .int .i64 n1]
  have hlc1 : CellsIn (W.alloc (.cells #[.int .i64 n0, .int .i64 n1] 42)) L ln (fun j => .string (lf j)) := hlc.later hWW
  have hc1 : CellsIn (W.alloc (.cells #[.int .i64 n0, .int .i64 n1] 42)) A n (fun j => .int .u8 (f j)) := hc.later hWW
  obtain ⟨sr, hsr⟩ : ∃ x, src ln lf = x := ⟨_, rfl⟩
  have hsrz : ∀ i, (sr i).size = 128 := fun i => by rw [← hsr]; exact src_size ln lf i
  go_enter Try.func4, Try.ntmps4
  go_wp2_with fail
  generalize W.alloc (.cells #[.int .i64 n0, .int .i64 n1] 42) = W1 at *
  generalize hnb : W.heap.size = nb at *
  have HNB := Lib.hid hnb
  clear hnb
  have c0 : W1.cell? ⟨nb, 0, none⟩ = some (.int .i64 n0) := hb0.cell 0
  have c1 : W1.cell? ⟨nb, 1, none⟩ = some (.int .i64 n1) := hb0.cell 1
  have hnbl := hb0.lt
  clear hlc hc hb0
  refine (new_own W1 8 (by omega) (by omega) (Below.refl _ _)).mono ?_
  rintro e w1 ⟨d, rfl, h1⟩
  have h2 := own_lit h1 #[] (n := 0) rfl (Nat.zero_le _)
  go_wp2_with fail
  go_loopg [9, 10] 8 (fun g t9 t10 wx => ∃ (k : Nat) (v : Value), k + g = 8 ∧ t10 = .int .i64 k ∧ t9 = v ∧ OwnR W1 wx d (sA sr k) v k (wA sr k))
  case atStart => exact ⟨0, _, rfl, rfl, rfl, h2⟩
  case round =>
    obtain ⟨k, v, hkg, rfl, rfl, hO⟩ := hrel
    have hst := sA_set sr k
    have hpk : (sA sr k).pend.length ≤ k := by omega
    by_cases hk8 : k < 8
    · have hkz0 : (0 : Int) ≤ (k : Int) := by omega
      have hkz1 : (k : Int) < 8 := by omega
      obtain ⟨g, rfl⟩ : ∃ g, gk = g + 1 := ⟨gk - 1, by omega⟩
      obtain ⟨S, hS⟩ : ∃ x, sr k = x := ⟨_, rfl⟩
      have HSz := Lib.hid (show S.size = 128 by rw [← hS]; exact hsrz k)
      have HSS := Lib.hid (show sA sr (k + 1) = (sA sr k).write (k : Int) S by rw [← hS]; rfl)
      have HWS := Lib.hid (show wA sr (k + 1) = wA sr k ++ [.string S] by rw [← hS]; exact wA_succ sr k)
      by_cases hkl : k < ln
      · have hfs : fullS (lf k) = S := by rw [← hS, ← hsr]; unfold src; rw [if_pos hkl]
        have HFS := Lib.hid hfs
        obtain ⟨b, o, rfl, hb, hcell⟩ := hlc1 (by omega)
        have hck : wr.cell? ⟨b, o + k, none⟩ = some (.string (lf k)) := (hO.below.cell (p := ⟨b, o + k, none⟩) hb).trans (hcell k hkl)
        have hkl2 : (k : Int) < (ln : Int) := by omega
        clear hfs hS hcell
        go_wp2_with fail
        refine (zero_any _).mono ?_
        rintro e w0 ⟨rfl, rfl⟩
        go_wp2_with fail
        refine (full_is (lf k) S _ (hlz k hkl) HFS.out).mono ?_
        rintro e w0 ⟨rfl, rfl⟩
        go_wp2_with fail
        refine (write_r hO (k : Int) S (hasC 8 hst.2.1 (by omega) (by omega)) HSz.out (notDead hst.1) (by omega)).mono ?_
        rintro e w3 ⟨rfl, h3⟩
        go_wp2_with (at_builtin; with_reducible refine wp_append_str (S := S) rfl (.tmp 47) (.tmp 49) rfl rfl rfl h3 (by omega) ?_; intro v5 w5 h5)
        go_roundg g
        case measure => omega
        case rel => exact ⟨k + 1, v5, by omega, by go_num, rfl, by rw [HSS.out, HWS.out]; exact h5⟩
      · have hz : S = zeroS := by rw [← hS, ← hsr]; unfold src; rw [if_neg hkl]
        subst hz
        have hkl2 : decide (k < ln) = false := by simp; omega
        have hkl3 : decide ((k : Int) < (ln : Int)) = false := by simp; omega
        clear hS
        go_wp2_with fail
        refine (zero_any _).mono ?_
        rintro e w0 ⟨rfl, rfl⟩
        go_wp2_with fail
        refine (write_r hO (k : Int) zeroS (hasC 8 hst.2.1 (by omega) (by omega)) HSz.out (notDead hst.1) (by omega)).mono ?_
        rintro e w3 ⟨rfl, h3⟩
        go_wp2_with (at_builtin; with_reducible refine wp_append_str (S := zeroS) rfl (.tmp 47) (.tmp 49) rfl rfl rfl h3 (by omega) ?_; intro v5 w5 h5)
        go_roundg g
        case measure => omega
        case rel => exact ⟨k + 1, v5, by omega, by go_num, rfl, by rw [HSS.out, HWS.out]; exact h5⟩
    · obtain rfl : k = 8 := by omega
      obtain ⟨gb, cap, rfl, _, _⟩ := hO.row.form (by omega)
      have hgd := hO.good
      go_wp2_with fail
      refine (flush_r hO (notDead hst.1) (by omega)).mono ?_
      rintro e w3 ⟨rfl, h3⟩
      go_wp2_with fail
      refine (pending_r h3 0 rfl).mono ?_
      rintro e w4 ⟨rfl, h4⟩
      have hhB : ∀ i : Nat, i < 8 → (sA sr 8).flush.held (i : Int) = sr i := fun i hi => by rw [flush_held hgd]; exact sA_cur sr 8 i hi
      have hhz : ∀ i, ((sA sr 8).flush.held i).size = 128 := h4.good.held
      have hKS : KSt (sA sr 8).flush 0 (sA sr 8).flush.held := ⟨hst.1, hst.2.1, rfl, rfl⟩
      have h4' : OwnR W1 w4 d (sA sr 8).flush (.slice (some ⟨gb, 0, none⟩) 8 cap) 8 (wB (sA sr 8).flush.held n0 (clampN n1) (sA sr 8).flush.pend 0) := by
        have := wA_8 sr (sA sr 8).flush.held n0 (clampN n1) hhB
        show OwnR _ _ _ _ _ _ (wB _ _ _ [] 0)
        rw [← this]; exact h4
      clear h4 hhB hst hpk
      generalize (sA sr 8).flush.held = hB at *
      generalize (sA sr 8).flush = sB at *
      go_wp2_with fail
      go_loopg [12] 20 (fun g t12 wx => ∃ (k : Nat) (s : St), k + g = 20 ∧ k ≤ n ∧ t12 = .int .i64 k ∧ KSt s k hB ∧ OwnR W1 wx d s (.slice (some ⟨gb, 0, none⟩) 8 cap) 8 (wB hB n0 (clampN n1) s.pend k))
      case atStart => exact ⟨0, sB, rfl, Nat.zero_le _, rfl, hKS, h4'⟩
      case round =>
        obtain ⟨k, s, hkg, hkn2, rfl, hS, hO⟩ := hrel
        have hpk : s.pend.length ≤ k := by have := hS.2.2.1; omega
        have c0' : wr.cell? ⟨nb, 0, none⟩ = some (.int .i64 n0) := (hO.below.cell (p := ⟨nb, 0, none⟩) hnbl).trans c0
        have c1' : wr.cell? ⟨nb, 1, none⟩ = some (.int .i64 n1) := (hO.below.cell (p := ⟨nb, 1, none⟩) hnbl).trans c1
        by_cases hlt : k < n
        · by_cases h20 : k < 20
          · have hkz0 : (0 : Int) ≤ (k : Int) := by omega
            have hkz2 : (k : Int) < (n : Int) := by omega
            have hkz3 : (k : Int) < 20 := by omega
            obtain ⟨g, rfl⟩ : ∃ g, gk = g + 1 := ⟨gk - 1, by omega⟩
            obtain ⟨b, o, rfl, hb, hcell⟩ := hc1 (by omega)
            have hck : W1.cell? ⟨b, o + k, none⟩ = some (.int .u8 (f k)) := hcell k hlt
            obtain ⟨hf0, hf1⟩ := u8_of (hw k hlt)
            generalize f k = z at *
            clear hcell
            obtain ⟨j, hzj⟩ : ∃ j : Nat, z % 8 = (j : Int) := ⟨(z % 8).toNat, by omega⟩
            have hj8 : j < 8 := by omega
            have hj1 : (0 : Int) ≤ (j : Int) := by omega
            have hj2 : (j : Int) < 8 := by omega
            obtain ⟨S, hFS⟩ : ∃ x, fullS ⟨#[97, 102, 116, 101, 114]⟩ = x := ⟨_, rfl⟩
            have hSz : S.size = 128 := by rw [← hFS]; exact fullS_size _
            have hck2 : wr.drew.cell? ⟨b, o + k, none⟩ = some (.int .u8 z) := (hO.below.cell (p := ⟨b, o + k, none⟩) hb).trans hck
            have HFS := Lib.hid hFS
            have HF2 := Lib.hid (full_still ⟨#[97, 102, 116, 101, 114]⟩ S wr.drew (by decide) hFS)
            have hps : ∀ p ∈ s.pend, p.2.size = 128 := fun p hp => (hO.good.pend p hp).1
            have hXz := wk_size (torn := n0) (q := clampN n1) hhz hps k (j : Int)
            have hlen : s.pend.length = k := hS.2.2.1
            have hS2 := hS.write (j : Int) S
            clear hFS
            go_wp2_with fail
            refine wp_region_still_tail 8 (by kernel_rfl) (by kernel_rfl) ?_
            simp only [List.take_succ_cons, List.take_zero, List.drop_succ_cons, List.drop_zero]
            change wpStill _ _ wr.drew (fun a' => wpList _ _ _ _ a' wr.drew) _ _
            repeat (first | still_call HF2.out | still_step)
            refine wpStill_nil ?_
            go_wp2_with fail
            rw [hzj]
            refine (write_r hO.drew (j : Int) S (hasC 8 hS.2.1 (by omega) (by omega)) hSz (notDead hS.1) (by omega)).mono ?_
            rintro e w3 ⟨rfl, h3⟩
            have d0 : w3.cell? ⟨nb, 0, none⟩ = some (.int .i64 n0) := (h3.below.cell (p := ⟨nb, 0, none⟩) hnbl).trans c0
            have d1 : w3.cell? ⟨nb, 1, none⟩ = some (.int .i64 n1) := (h3.below.cell (p := ⟨nb, 1, none⟩) hnbl).trans c1
            have d2 : w3.cell? ⟨b, o + k, none⟩ = some (.int .u8 z) := (h3.below.cell (p := ⟨b, o + k, none⟩) hb).trans hck
            by_cases ht : (k : Int) = n0
            · have hbt : ((k : Int) == n0) = true := beq_iff_eq.2 ht
              have hfin : wB hB n0 (clampN n1) (s.write (j : Int) S).pend (k + 1) = (wB hB n0 (clampN n1) s.pend k).set j (.string (mix (clampN n1) S (wk hB n0 (clampN n1) s.pend k (j : Int)))) := by
                have := wB_torn hB n0 (clampN n1) s.pend j hj8 S (by rw [hlen]; exact ht)
                rw [hlen] at this; exact this
              have HF := Lib.hid hfin
              have hg3 := h3.cell j _ (wB_at hB n0 (clampN n1) s.pend k j hj8)
              have hfr := h3.free j
              clear hfin ht hlen
              go_upto_region 22 with fail
              go_cut [13] from 59 to 109 (fun t wx => t = .int .i64 (clampN n1 : Int) ∧ w3 = wx)
              case first =>
                by_cases hp0 : n1 < 0
                · have hcl : clampN n1 = 0 := by unfold clampN; rw [if_pos hp0]
                  have HCL := Lib.hid hcl
                  have hp4 : n1 < 128 := by omega
                  clear hcl
                  go_wp2_with fail
                  go_meet
                  case rel => exact ⟨int_eq (by rw [HCL.out]; rfl), rfl⟩
                · by_cases hp1 : 128 < n1
                  · have hcl : clampN n1 = 128 := by unfold clampN; rw [if_neg hp0, if_pos hp1]
                    have HCL := Lib.hid hcl
                    have hp5 : 0 ≤ n1 := by omega
                    clear hcl hp0
                    go_wp2_with fail
                    go_meet
                    case rel => exact ⟨int_eq (by rw [HCL.out]; rfl), rfl⟩
                  · have hcl : clampN n1 = n1.toNat := by unfold clampN; rw [if_neg hp0, if_neg hp1]
                    have hp2 : 0 ≤ n1 := by omega
                    have hcz : n1 = (clampN n1 : Int) := by rw [hcl]; exact (Int.toNat_of_nonneg hp2).symm
                    have HCL := Lib.hid hcz
                    by_cases hq0 : 0 < n1
                    · by_cases hq8 : n1 < 128
                      · clear hcl hcz hp0 hp1
                        go_wp2_with fail
                        go_meet
                        case rel => exact ⟨int_eq HCL.out, rfl⟩
                      · obtain rfl : n1 = 128 := by omega
                        clear hcl hcz hp0 hp1 hq0 hq8 HCL hp2
                        go_wp2_with fail
                        go_meet
                        case rel => exact ⟨int_eq (show (128 : Int) = ((clampN 128 : Nat) : Int) by decide), rfl⟩
                    · obtain rfl : n1 = 0 := by omega
                      clear hcl hcz hp0 hp1 hq0 HCL hp2
                      go_wp2_with fail
                      go_meet
                      case rel => exact ⟨int_eq (show (0 : Int) = ((clampN 0 : Nat) : Int) by decide), rfl⟩
              case rest =>
              obtain ⟨rfl, rfl⟩ := hcut
              have hq := clampN_le n1
              have hq1 : (0 : Int) ≤ (clampN n1 : Int) := by omega
              have hq2 : (clampN n1 : Int) ≤ 128 := by omega
              have hzt : z.tmod 8 = (j : Int) := by rw [Int.tmod_eq_emod_of_nonneg hf0]; exact hzj
              have hwz : IntKind.i64.wrap z = z := IntWalk.i64_in _ (by omega)
              have hmx := mix_extract (clampN n1) S _ hXz
              have HF3 := Lib.hid (full_still ⟨#[97, 102, 116, 101, 114]⟩ S w3.drew (by decide) HFS.out)
              rw [hmx] at HF
              generalize wk hB n0 (clampN n1) s.pend k (j : Int) = X at *
              have h5 := h3.drew.set j (.string (S.extract 0 (clampN n1) ++ X.extract (clampN n1) 128))
              clear hmx
              generalize clampN n1 = q at *
              go_wp2_with fail
              refine wp_region_still_tail 23 (by kernel_rfl) (by kernel_rfl) ?_
              simp only [List.take_succ_cons, List.take_zero, List.drop_succ_cons, List.drop_zero]
              change wpStill _ _ w3.drew (fun a' => wpList _ _ _ _ a' w3.drew) _ _
              repeat (first | still_call HF3.out | still_step)
              refine wpStill_nil ?_
              clear hwz hzt
              go_wp2_with fail
              go_roundg g
              case measure => omega
              case rel => exact ⟨k + 1, _, by omega, by omega, by go_num, hS2, by rw [HF.out]; exact h5⟩
            · have hbt : ((k : Int) == n0) = false := beq_eq_false_iff_ne.2 ht
              have hfin : wB hB n0 (clampN n1) (s.write (j : Int) S).pend (k + 1) = wB hB n0 (clampN n1) s.pend k := by
                have := wB_same hB n0 (clampN n1) s.pend (j : Int) S (by rw [hlen]; exact ht)
                rw [hlen] at this; exact this
              have HF := Lib.hid hfin
              clear hfin ht hlen
              go_wp2_with fail
              go_roundg g
              case measure => omega
              case rel => exact ⟨k + 1, _, by omega, by omega, by go_num, hS2, by rw [HF.out]; exact h3⟩
          · obtain rfl : k = 20 := by omega
            have hkz2 : (20 : Int) < (n : Int) := by omega
            go_wp2_with fail
            refine (crash_r hO none 0 0 (Nat.zero_le _) (fun _ => false) n0 n1 (fun h => absurd h (by omega)) (fun _ _ => rfl) (by omega)).mono ?_
            rintro e w3 ⟨rfl, h3⟩
            have hcur : ∀ i, (s.crash (fun _ => false) n0 (clampN n1)).cur i = wk hB n0 (clampN n1) s.pend s.pend.length i := fun i => by
              show crashTo (fun _ => false) n0 (clampN n1) s.pend s.held s.pend.length i = _
              rw [hS.2.2.2]; rfl
            have HC := Lib.hid hcur
            have HSZ := Lib.hid (show (s.crash (fun _ => false) n0 (clampN n1)).size = 8 from hS.2.1)
            have HPD := Lib.hid (show ((s.crash (fun _ => false) n0 (clampN n1)).pend.length : Int) = 0 from rfl)
            have HP := Lib.hid hS.2.2.1
            clear hcur
            generalize s.crash (fun _ => false) n0 (clampN n1) = s2 at *
            go_wp2_with fail
            go_loopg [14] 8 (fun g t wx => ∃ k : Nat, k + g = 8 ∧ t = .int .i64 k ∧ OwnR W1 wx d s2 (.slice (some ⟨gb, 0, none⟩) 8 cap) 8 (wB hB n0 (clampN n1) s.pend s.pend.length))
            case atStart => exact ⟨0, rfl, rfl, by have := h3; rw [← HP.out] at this; exact this⟩
            case round =>
              obtain ⟨i, hig, rfl, h4⟩ := hrel
              by_cases hi4 : i < 8
              · obtain ⟨g2, rfl⟩ : ∃ g2, gk = g2 + 1 := ⟨gk - 1, by omega⟩
                have hiz : (0 : Int) ≤ (i : Int) := by omega
                have hiz2 : (i : Int) < 8 := by omega
                go_wp2_with fail
                refine (read_r h4 (i : Int) (hasC 8 HSZ.out (by omega) (by omega)) _ (HC.out (i : Int))).mono ?_
                rintro e w5 ⟨rfl, h5⟩
                have hcell := h5.cell i _ (wB_at hB n0 (clampN n1) s.pend s.pend.length i hi4)
                generalize wk hB n0 (clampN n1) s.pend s.pend.length (i : Int) = X at *
                go_wp2_with fail
                go_roundg g2
                case measure => omega
                case rel => exact ⟨i + 1, by omega, by go_num, h5⟩
              · obtain rfl : i = 8 := by omega
                go_wp2_with fail
                refine (pending_r h4 0 HPD.out).mono ?_
                rintro e w5 ⟨rfl, h5⟩
                go_wp2_with fail
                refine (fixed_any _).mono ?_
                rintro e w6 ⟨rfl, h6⟩
                go_wp2_with fail
                go_ret
                refine ⟨rfl, ?_⟩
                rw [HNB.out]
                exact hWW.trans ((h5.below.trans (h6.mono h5.below.size)).mono (Nat.le_of_lt hnbl))
        · have hk2 : decide (k < n) = false := by simp; omega
          have hk3 : decide ((k : Int) < (n : Int)) = false := by simp; omega
          go_wp2_with fail
          refine (crash_r hO none 0 0 (Nat.zero_le _) (fun _ => false) n0 n1 (fun h => absurd h (by omega)) (fun _ _ => rfl) (by omega)).mono ?_
          rintro e w3 ⟨rfl, h3⟩
          have hcur : ∀ i, (s.crash (fun _ => false) n0 (clampN n1)).cur i = wk hB n0 (clampN n1) s.pend s.pend.length i := fun i => by
            show crashTo (fun _ => false) n0 (clampN n1) s.pend s.held s.pend.length i = _
            rw [hS.2.2.2]; rfl
          have HC := Lib.hid hcur
          have HSZ := Lib.hid (show (s.crash (fun _ => false) n0 (clampN n1)).size = 8 from hS.2.1)
          have HPD := Lib.hid (show ((s.crash (fun _ => false) n0 (clampN n1)).pend.length : Int) = 0 from rfl)
          have HP := Lib.hid hS.2.2.1
          clear hcur
          generalize s.crash (fun _ => false) n0 (clampN n1) = s2 at *
          go_wp2_with fail
          go_loopg [14] 8 (fun g t wx => ∃ k : Nat, k + g = 8 ∧ t = .int .i64 k ∧ OwnR W1 wx d s2 (.slice (some ⟨gb, 0, none⟩) 8 cap) 8 (wB hB n0 (clampN n1) s.pend s.pend.length))
          case atStart => exact ⟨0, rfl, rfl, by have := h3; rw [← HP.out] at this; exact this⟩
          case round =>
            obtain ⟨i, hig, rfl, h4⟩ := hrel
            by_cases hi4 : i < 8
            · obtain ⟨g2, rfl⟩ : ∃ g2, gk = g2 + 1 := ⟨gk - 1, by omega⟩
              have hiz : (0 : Int) ≤ (i : Int) := by omega
              have hiz2 : (i : Int) < 8 := by omega
              go_wp2_with fail
              refine (read_r h4 (i : Int) (hasC 8 HSZ.out (by omega) (by omega)) _ (HC.out (i : Int))).mono ?_
              rintro e w5 ⟨rfl, h5⟩
              have hcell := h5.cell i _ (wB_at hB n0 (clampN n1) s.pend s.pend.length i hi4)
              generalize wk hB n0 (clampN n1) s.pend s.pend.length (i : Int) = X at *
              go_wp2_with fail
              go_roundg g2
              case measure => omega
              case rel => exact ⟨i + 1, by omega, by go_num, h5⟩
            · obtain rfl : i = 8 := by omega
              go_wp2_with fail
              refine (pending_r h4 0 HPD.out).mono ?_
              rintro e w5 ⟨rfl, h5⟩
              go_wp2_with fail
              refine (fixed_any _).mono ?_
              rintro e w6 ⟨rfl, h6⟩
              go_wp2_with fail
              go_ret
              refine ⟨rfl, ?_⟩
              rw [HNB.out]
              exact hWW.trans ((h5.below.trans (h6.mono h5.below.size)).mono (Nat.le_of_lt hnbl))

theorem cellsE2 : Try.prog.cellsOf 3 = 1 := by kernel_rfl
theorem cellsT2 : Try.prog.cellsOf 42 = 2 := by kernel_rfl

set_option maxRecDepth 100000 in
theorem lifted (os : Os) (started : os.Started) (H : Type) (enc : TypeId × Value → H) :
    ReturnsInHanded {} Try.checked os 4 .any (Rows.diskKeepsSpec.pre6 enc Try.prog Try.f4 Rows.diskKeepsRow.domain false) (Rows.diskKeepsSpec.post enc Try.prog Try.f4 false true false false) := by
  refine returnsInHanded_of_change (C := Try.checked) own started (by kernel_rfl) Try.func4
    (ChangeSpec.witness6 (enc := enc) (C := Try.checked) false ⟨#[], #[.slice none 0 0, .slice none 0 0, .agg #[.int .i64 0, .int .i64 0]], []⟩ 8 (by kernel_rfl) (by kernel_rfl) (by kernel_rfl) (by kernel_rfl)) ?_
  intro W base args ds gs before hval0 hW hcnd _
  have hval : ∀ (j : Nat) t v, Try.f4.params[j]? = some t → args[j]? = some v → Value.okWide Try.prog W .any base t v := hval0
  have hW' := hW
  obtain ⟨p, q, hA0, hV, rfl, hfz, hnd⟩ := hW
  have hA : DataW.TrodAll enc Try.prog W 0 (fun _ => true) true Try.f4.params.toList args.toList ds p := hA0
  rw [Try.params4] at hA hval
  obtain ⟨v0, vs0, d0, ds0, p0, q0, hargs, rfl, rfl, h0, r0⟩ := trodAll_cons hA
  obtain ⟨v1, vs1, d1, ds1, p1, q1, rfl, rfl, rfl, h1, r1⟩ := trodAll_cons r0
  obtain ⟨v2, vs2, d2, ds2, p2, q2, rfl, rfl, rfl, h2, r2⟩ := trodAll_cons r1
  obtain ⟨rfl, rfl, rfl⟩ := trodAll_nil r2
  obtain rfl : args = #[v0, v1, v2] := by cases args; simp_all
  obtain ⟨rfl, rfl⟩ := trodVars_none hV
  obtain ⟨A0, n0, c0, f0, rfl, hn0, hc0, hw0⟩ := open_strs Try.underlying40 Try.underlying9 (by kernel_rfl) (hval 0 40 v0 rfl rfl) h0
  obtain ⟨A1, n1, c1, f1, rfl, hn1, hc1, hw1⟩ := open_nums Try.underlying41 Try.underlying5 (by kernel_rfl) (hval 1 41 v1 rfl rfl) h1
  obtain ⟨a2_0, a2_1, rfl, rfl, rfl, w2_0, w2_1⟩ := open_arr2 Try.underlying42 Try.underlying3 cellsE2 cellsT2 (hval 2 42 v2 rfl rfl) h2
  clear hA0 hval0
  try simp only [List.append_nil] at hW'
  try simp only [List.nil_append] at hW'
  have hlt := fun x hx => hW'.lt x hx
  refine (walk A0 n0 c0 f0 A1 n1 c1 f1 a2_0 a2_1 W hn0 hc0 hw0 hn1 hc1 hw1 w2_0 w2_1).mono fun e W' ⟨he, hg⟩ => ?_
  subst he
  refine ⟨_, rfl, post_mem hW' (fun _ _ _ => (trodAll_cons_mk (shut_bool Try.underlying4 _) trodAll_mk0)) (fun sp hsp => ?_) (fun _ => rfl) hg (ok_one (by kernel_rfl) rfl (okWide_bool_mk Try.underlying4 _))⟩
  have hall := (trodAll_cons_mk (arg_same (sp := sp) laid (by kernel_rfl) (of_decide_eq_true (by kernel_rfl)) h0 hg (by intro x hx; simp_all) hlt hsp) (trodAll_cons_mk (arg_same (sp := sp) laid (by kernel_rfl) (of_decide_eq_true (by kernel_rfl)) h1 hg (by intro x hx; simp_all) hlt hsp) (trodAll_cons_mk (arg_same (sp := sp) laid (by kernel_rfl) (of_decide_eq_true (by kernel_rfl)) h2 hg (by intro x hx; simp_all) hlt hsp) trodAll_mk0)))
  try simp only [List.append_nil] at hall
  try simp only [List.nil_append] at hall
  exact hall

theorem over : Rows.diskKeepsRow.holds Try.pinned (OpenSpec.ofChange Rows.diskKeepsSpec) :=
  OpenClaim.holds_of_wide 4 Try.f4 rfl rfl rfl rfl rfl rfl rfl ⟨rfl, rfl, rfl, rfl, rfl⟩ rfl rfl rfl rfl rfl (by kernel_rfl) Try.func4 (by kernel_rfl)
    (of_decide_eq_true (by kernel_rfl)) (by unfold Func.isWrapper; first | (rw [if_pos (by decide +kernel)]; kernel_rfl) | (rw [if_neg (by decide +kernel)]; exact ⟨rfl, rfl⟩))
    (fun os started H enc _ => lifted os started H enc)

theorem proved : Rows.DiskKeepsSaid := over
#print axioms proved
end Go.Proofs.Ytdfgidghiooikaa.diskKeeps
