/- For every list of texts, every list of bools and every two numbers the statement DiskSwap about disk.Disk returns true, and changes nothing that was there. Conditions: none. -/
import Derived.Test.YtdfgidghiooikaaSep
import Derived.Test.YtdfgidghiooikaaArr
import Derived.StillTailTactics
import Derived.WalkSmall
import Derived.Deep.DeepCutAuto
import Derived.Deep.LoopGhost
import Derived.ProofKit
import Derived.OpenShut
import Derived.ShutString
import Derived.SizedLaws
namespace Go.Proofs.Ytdfgidghiooikaa.diskSwap
open Go.ChangeShapes Go.WideShapes Go.ChangeAt Go.RowKit Go.Lib Go.MapKept
open Go.ChangeMaps (open_string shut_string)
set_option linter.unusedVariables false

theorem own : ownKnob Try.prog.godebug = none := by kernel_rfl
theorem laid : laidOutB Try.prog = true := by kernel_rfl

theorem crashTo_miss {keep : Nat → Bool} {torn : Int} {n : Nat} {l : List (Int × ByteArray)} {h : Int → ByteArray} {i : Int} (hm : ∀ p ∈ l, p.1 ≠ i) : ∀ k, crashTo keep torn n l h k i = h i
  | 0 => rfl
  | k + 1 => by
    have ih := crashTo_miss (keep := keep) (torn := torn) (n := n) (h := h) hm k
    cases hp : l[k]? with
    | none => simp only [crashTo, hp]; exact ih
    | some p =>
      have hne := hm p (List.mem_of_getElem? hp)
      rw [crashTo_step hp]
      have e : ∀ q, do1 (crashTo keep torn n l h k) p q i = h i := fun q => by unfold do1; rw [if_neg (Ne.symm hne)]; exact ih
      split
      · exact e _
      · split
        · exact e _
        · exact ih
theorem crashTo_hit {keep : Nat → Bool} {torn : Int} {n : Nat} {l : List (Int × ByteArray)} {h : Int → ByteArray} {i : Int} {X : ByteArray} (p : Nat) (hp : l[p]? = some (i, X)) (hu : ∀ q Y, l[q]? = some (i, Y) → q = p) :
    ∀ k, k ≤ l.length → crashTo keep torn n l h k i = if p < k then (if keep p then mix 128 X (h i) else if (p : Int) = torn then mix n X (h i) else h i) else h i
  | 0, _ => by rw [if_neg (by omega)]; rfl
  | k + 1, hk => by
    have ih := crashTo_hit (keep := keep) (torn := torn) (n := n) (h := h) p hp hu k (by omega)
    have hlt : k < l.length := by omega
    have e : l[k]? = some l[k] := List.getElem?_eq_getElem hlt
    rw [crashTo_step e]
    by_cases hkp : k = p
    · subst hkp
      have e2 : l[k] = (i, X) := Option.some.inj (e.symm.trans hp)
      rw [if_neg (show ¬ k < k by omega)] at ih
      have e5 : ∀ q, do1 (crashTo keep torn n l h k) (i, X) q i = mix q X (h i) := fun q => by unfold do1; rw [if_pos rfl, ih]
      rw [if_pos (show k < k + 1 by omega), e2]
      cases keep k
      · simp only [Bool.false_eq_true, if_false]
        by_cases et : (k : Int) = torn
        · rw [if_pos et, if_pos et, e5]
        · rw [if_neg et, if_neg et, ih]
      · simp only [if_true]
        exact e5 128
    · have hne : l[k].1 ≠ i := fun h => hkp (hu k l[k].2 (by rw [e, ← h]))
      have e3 : ∀ q, do1 (crashTo keep torn n l h k) l[k] q i = crashTo keep torn n l h k i := fun q => by unfold do1; rw [if_neg (Ne.symm hne)]
      have e4 : (p < k + 1) ↔ (p < k) := by omega
      simp only [e4]
      split
      · rw [e3]; exact ih
      · split
        · rw [e3]; exact ih
        · exact ih
def lA (X : Nat → ByteArray) (k : Nat) : List (Int × ByteArray) := (List.range k).map fun (j : Nat) => ((j : Int), X j)
def lB (X : Nat → ByteArray) (M k : Nat) : List (Int × ByteArray) := (List.range k).map fun (j : Nat) => (((M - 1 - j : Nat) : Int), X (M - 1 - j))
theorem lA_at (X : Nat → ByteArray) (k j : Nat) (h : j < k) : (lA X k)[j]? = some ((j : Int), X j) := by simp [lA, h]
theorem lB_at (X : Nat → ByteArray) (M k j : Nat) (h : j < k) : (lB X M k)[j]? = some (((M - 1 - j : Nat) : Int), X (M - 1 - j)) := by simp [lB, h]
def tl (keep : Nat → Bool) (M k : Nat) : List Bool := (List.range k).map fun (j : Nat) => keep (M - 1 - j)
theorem tl_succ (keep : Nat → Bool) (M k : Nat) : (tl keep M (k + 1)).map Value.bool = (tl keep M k).map Value.bool ++ [.bool (keep (M - 1 - k))] := by simp [tl, List.range_succ]
theorem tl_at (keep : Nat → Bool) (M k j : Nat) (h : j < k) : (tl keep M k).getD j false = keep (M - 1 - j) := by simp [tl, List.getD, h]
/-- Both crashes leave the same. -/
theorem swap_same (X : Nat → ByteArray) (keep : Nat → Bool) (M : Nat) (t : Int) (q : Nat) (h : Int → ByteArray) (i : Int) (hi : 0 ≤ i) :
    crashTo keep t q (lA X M) h M i = crashTo (fun j => (tl keep M M).getD j false) ((M : Int) - 1 - t) q (lB X M M) h M i := by
  obtain ⟨i, rfl⟩ := Int.eq_ofNat_of_zero_le hi
  by_cases hlt : i < M
  · rw [crashTo_hit i (lA_at X M i hlt) (fun p Y hp => by
      have hl : p < M := by have := (List.getElem?_eq_some_iff.1 hp).1; simpa [lA] using this
      rw [lA_at X M p hl] at hp
      injection hp with hp
      injection hp with hp _
      omega) M (by simp [lA]), crashTo_hit (M - 1 - i) (X := X i) (by rw [lB_at X M M _ (by omega), show M - 1 - (M - 1 - i) = i by omega]) (fun p Y hp => by
      have hl : p < M := by have := (List.getElem?_eq_some_iff.1 hp).1; simpa [lB] using this
      rw [lB_at X M M p hl] at hp
      injection hp with hp
      injection hp with hp _
      omega) M (by simp [lB]), if_pos hlt, if_pos (show M - 1 - i < M by omega), tl_at keep M M _ (by omega), show M - 1 - (M - 1 - i) = i by omega]
    have e : ((i : Int) = t) ↔ (((M - 1 - i : Nat) : Int) = (M : Int) - 1 - t) := by omega
    simp only [e]
  · rw [crashTo_miss, crashTo_miss]
    · intro p hp
      simp only [lB, List.mem_map, List.mem_range] at hp
      obtain ⟨j, _, rfl⟩ := hp
      show ((M - 1 - j : Nat) : Int) ≠ (i : Int)
      omega
    · intro p hp
      simp only [lA, List.mem_map, List.mem_range] at hp
      obtain ⟨j, hj, rfl⟩ := hp
      show (j : Int) ≠ (i : Int)
      omega
def PS (s : St) (l : List (Int × ByteArray)) : Prop := s.set = false ∧ s.size = 8 ∧ s.pend = l ∧ s.held = fun _ => zeroS
theorem PS.a {s : St} {X : Nat → ByteArray} {k : Nat} (h : PS s (lA X k)) : PS (s.write (k : Int) (X k)) (lA X (k + 1)) :=
  ⟨h.1, h.2.1, by show s.pend ++ _ = _; rw [h.2.2.1]; simp [lA, List.range_succ], h.2.2.2⟩
theorem PS.b {s : St} {X : Nat → ByteArray} {M k : Nat} (h : PS s (lB X M k)) : PS (s.write ((M - 1 - k : Nat) : Int) (X (M - 1 - k))) (lB X M (k + 1)) :=
  ⟨h.1, h.2.1, by show s.pend ++ _ = _; rw [h.2.2.1]; simp [lB, List.range_succ], h.2.2.2⟩
theorem PS.len {s : St} {l : List (Int × ByteArray)} (h : PS s l) : s.pend.length = l.length := by rw [h.2.2.1]
theorem row_slice {W w : World} {items : List Item} (h : Sep W w items) (k : Nat) {t : TypeId} {v : Value} {n : Nat} {xs : List Value} (hk : items[k]? = some (rowI t v n xs)) : ∃ A p, v = .slice A n p := by
  obtain ⟨G, ⟨hr, _⟩, _⟩ := h.at_ k hk
  exact own_slice hr
theorem and7 (n : Int) : 0 ≤ bits .and .i64 n 7 ∧ bits .and .i64 n 7 ≤ 7 := by
  have e : bits .and .i64 n 7 = IntKind.i64.wrap ((BitVec.ofInt 64 n &&& BitVec.ofInt 64 7).toNat : Int) := rfl
  have h7 : (BitVec.ofInt 64 7).toNat = 7 := by decide
  rw [e, BitVec.toNat_and, h7]
  have hle : (BitVec.ofInt 64 n).toNat &&& 7 ≤ 7 := Nat.and_le_right
  rw [IntKind.wrap_i64]
  omega

set_option maxRecDepth 100000 in
set_option maxHeartbeats 8000000 in
theorem walk (L : Option Addr) (ln lc : Nat) (lf : Nat → ByteArray) (K : Option Addr) (kn kc : Nat) (keep : Nat → Bool) (n0 n1 : Int) (W : World) (hln : ln ≤ maxLen) (hlc : CellsIn W L ln (fun j => .string (lf j))) (hlz : ∀ j, j < ln → (lf j).size ≤ maxLen)
    (hkn : kn ≤ maxLen) (hK : CellsIn W K kn (fun j => .bool (keep j))) (hkf : ∀ j, kn ≤ j → keep j = false) (wn0 : (Lit.int .i64 n0).wf = true) (wn1 : (Lit.int .i64 n1).wf = true) :
    Calls Try.prog 7 #[.slice L ln lc, .slice K kn kc, .agg #[.int .i64 n0, .int .i64 n1]] W fun e w' => e = .returned (.bool true) ∧ Below W.heap.size W w' := by
  have hlnz : (ln : Int) ≤ 9223372036854775807 := by unfold maxLen at hln; omega
  have hknz : (kn : Int) ≤ 9223372036854775807 := by unfold maxLen at hkn; omega
  clear hln wn0 wn1
  have hWW : Below W.heap.size W (W.alloc (.cells #[.int .i64 n0, .int .i64 n1] 42)) := (Below.refl _ _).alloc (Nat.le_refl _) _
  have hb0 := Blk.new W 42 #[.int .i64 n0, .int .i64 n1]
  have hlc1 := hlc.later hWW
  have hK1 := hK.later hWW
  obtain ⟨X, hX⟩ : ∃ x : Nat → ByteArray, (fun j => fullS (lf j)) = x := ⟨_, rfl⟩
  have hXe : ∀ j, fullS (lf j) = X j := fun j => by rw [← hX]
  have HXE := Lib.hid hXe
  have HXZ := Lib.hid (show ∀ j, (X j).size = 128 from fun j => by rw [← hXe]; exact fullS_size _)
  obtain ⟨M, hM⟩ : ∃ M : Nat, M = min ln 8 := ⟨_, rfl⟩
  have hM1 : M ≤ ln := by omega
  have hM2 : M ≤ 8 := by omega
  obtain ⟨t, ht⟩ : ∃ t : Int, bits .and .i64 n0 7 = t := ⟨_, rfl⟩
  have ht0 : 0 ≤ t := by rw [← ht]; exact (and7 n0).1
  have ht7 : t ≤ 7 := by rw [← ht]; exact (and7 n0).2
  have HTT := Lib.hid ht
  have HMM := Lib.hid hM
  clear hX hXe hM ht
  go_enter Try.func7, Try.ntmps7
  go_wp2_with fail
  generalize W.alloc (.cells #[.int .i64 n0, .int .i64 n1] 42) = W1 at *
  generalize hnb : W.heap.size = nb at *
  have HNB := Lib.hid hnb
  have c0 : W1.cell? ⟨nb, 0, none⟩ = some (.int .i64 n0) := hb0.cell 0
  have c1 : W1.cell? ⟨nb, 1, none⟩ = some (.int .i64 n1) := hb0.cell 1
  have hnbl := hb0.lt
  clear hlc hK hb0 hnb
  refine (new_s (Sep.nil (Below.refl _ _)) 8 (by omega) (by omega)).mono ?_
  rintro e w1 ⟨a, rfl, h1⟩
  go_wp2_with fail
  refine (new_s h1 8 (by omega) (by omega)).mono ?_
  rintro e w2 ⟨b, rfl, h2⟩
  have h3 := h2.lit 4 #[] 0 rfl (Nat.zero_le _)
  go_upto_region 5 with fail
  go_cut [11, 12] (fun t11 t12 wx => t11 = .int .i64 (M : Int) ∧ t12 = .slice (some ⟨w2.heap.size, 0, none⟩) 0 0 ∧ w2.alloc (.cells #[] 4) = wx)
  case first =>
    by_cases hl8 : ln ≤ 8
    · have hz8 : (ln : Int) ≤ 8 := by omega
      have hML : M = ln := by have := HMM.out; omega
      have HML := Lib.hid hML
      clear hML hl8
      go_wp2_with fail
      all_goals
        go_meet
        case rel => exact ⟨by rw [HML.out], rfl, rfl⟩
    · have hz8 : (8 : Int) < (ln : Int) := by omega
      have hML : M = 8 := by have := HMM.out; omega
      have HML := Lib.hid hML
      clear hML hl8
      go_wp2_with fail
      all_goals
        go_meet
        case rel => exact ⟨by rw [HML.out]; rfl, rfl, rfl⟩
  case rest =>
  obtain ⟨rfl, rfl, rfl⟩ := hcut
  go_wp2_with fail
  go_loopg [12, 13] M (fun g t12 t13 wx => ∃ (k : Nat) (v : Value) (sa sb : St), k + g = M ∧ t13 = .int .i64 k ∧ t12 = v ∧ PS sa (lA X k) ∧ PS sb (lB X M k) ∧ Sep W1 wx [diskI a sa, diskI b sb, rowI 4 v k ((tl keep M k).map Value.bool)])
  case atStart => exact ⟨0, _, _, _, by omega, rfl, rfl, ⟨rfl, rfl, rfl, rfl⟩, ⟨rfl, rfl, rfl, rfl⟩, h3⟩
  case round =>
    obtain ⟨k, v, sa, sb, hkg, rfl, rfl, hpa, hpb, hO⟩ := hrel
    obtain ⟨A1, p1, rfl⟩ := row_slice hO 2 rfl
    have hla : sa.pend.length = k := by rw [hpa.len]; simp [lA]
    have hlb : sb.pend.length = k := by rw [hpb.len]; simp [lB]
    have d1 : wr.cell? ⟨nb, 1, none⟩ = some (.int .i64 n1) := (hO.below.cell (p := ⟨nb, 1, none⟩) hnbl).trans c1
    have d0 : wr.cell? ⟨nb, 0, none⟩ = some (.int .i64 n0) := (hO.below.cell (p := ⟨nb, 0, none⟩) hnbl).trans c0
    by_cases hlt : k < M
    · have hkz0 : (0 : Int) ≤ (k : Int) := by omega
      have hkz2 : (k : Int) < (M : Int) := by omega
      have hkz3 : (k : Int) < (ln : Int) := by omega
      have hkM : (M : Int) ≤ 8 := by omega
      obtain ⟨g, rfl⟩ : ∃ g, gk = g + 1 := ⟨gk - 1, by omega⟩
      obtain ⟨bb, o, rfl, hb, hcell⟩ := hlc1 (by omega)
      obtain ⟨r, hr⟩ : ∃ r : Nat, M - 1 - k = r := ⟨_, rfl⟩
      have hrz : (M : Int) - 1 - (k : Int) = (r : Int) := by omega
      have hr0 : (0 : Int) ≤ (r : Int) := by omega
      have hr2 : (r : Int) < (ln : Int) := by omega
      have hr3 : r < ln := by omega
      have hr8 : (r : Int) < 8 := by omega
      have hck : wr.cell? ⟨bb, o + k, none⟩ = some (.string (lf k)) := (hO.below.cell (p := ⟨bb, o + k, none⟩) hb).trans (hcell k (by omega))
      have hcr : W1.cell? ⟨bb, o + r, none⟩ = some (.string (lf r)) := hcell r hr3
      have hPa := hpa.a
      have hPb := hpb.b
      have HT := Lib.hid (tl_succ keep M k)
      rw [hr] at hPb HT
      clear hcell hr
      go_wp2_with fail
      refine (full_is (lf k) (X k) _ (hlz k (by omega)) (HXE.out k)).mono ?_
      rintro e w0 ⟨rfl, rfl⟩
      go_wp2_with fail
      refine (write_s hO 0 rfl (k : Int) (X k) (hasC 8 hpa.2.1 (by omega) (by omega)) (HXZ.out k) (notDead hpa.1) (by omega)).mono ?_
      rintro e w4 ⟨rfl, h4⟩
      have hcr4 : w4.cell? ⟨bb, o + r, none⟩ = some (.string (lf r)) := (h4.below.cell (p := ⟨bb, o + r, none⟩) hb).trans hcr
      go_wp2_with fail
      refine (full_is (lf r) (X r) _ (hlz r hr3) (HXE.out r)).mono ?_
      rintro e w0 ⟨rfl, rfl⟩
      go_wp2_with fail
      refine (write_s h4 1 rfl (r : Int) (X r) (hasC 8 hpb.2.1 (by omega) (by omega)) (HXZ.out r) (notDead hpb.1) (by omega)).mono ?_
      rintro e w5 ⟨rfl, h5⟩
      have h6 : Sep W1 w5 [diskI a (sa.write (k : Int) (X k)), diskI b (sb.write (r : Int) (X r)), rowI 4 (.slice A1 k p1) k ((tl keep M k).map Value.bool)] := h5
      clear h4 h5 hcr4
      by_cases hrk : r < kn
      · obtain ⟨kb, ko, rfl, hkb, hkcell⟩ := hK1 (by omega)
        have hkc2 : w5.cell? ⟨kb, ko + r, none⟩ = some (.bool (keep r)) := (h6.below.cell (p := ⟨kb, ko + r, none⟩) hkb).trans (hkcell r hrk)
        have hrk2 : (r : Int) < (kn : Int) := by omega
        clear hkcell
        generalize keep r = B at *
        go_wp2_with (at_builtin; with_reducible refine wp_append_bool (B := B) rfl (.tmp 76) (.tmp 87) rfl rfl rfl h6 2 rfl (by omega) ?_; intro v5 w7 h7)
        go_roundg g
        case measure => omega
        case rel => exact ⟨k + 1, v5, _, _, by omega, by go_num, rfl, hPa, hPb, by rw [HT.out]; exact h7⟩
      · have hrk2 : decide (r < kn) = false := by simp; omega
        have hrk3 : decide ((r : Int) < (kn : Int)) = false := by simp; omega
        have hkr : keep r = false := hkf r (by omega)
        rw [hkr] at HT
        clear hkr hrk
        go_wp2_with (at_builtin; with_reducible refine wp_append_bool (B := false) rfl (.tmp 76) (.tmp 87) rfl rfl rfl h6 2 rfl (by omega) ?_; intro v5 w7 h7)
        go_roundg g
        case measure => omega
        case rel => exact ⟨k + 1, v5, _, _, by omega, by go_num, rfl, hPa, hPb, by rw [HT.out]; exact h7⟩
    · obtain rfl : k = M := by omega
      have hkM : (k : Int) ≤ 8 := by omega
      have htt := HTT.out
      go_wp2_with fail
      refine (crash_arg_s hO 0 rfl K kn kc hkn keep t n1 hK1 hkf (by omega)).mono ?_
      rintro e w4 ⟨rfl, h4⟩
      have d1' : w4.cell? ⟨nb, 1, none⟩ = some (.int .i64 n1) := (h4.below.cell (p := ⟨nb, 1, none⟩) hnbl).trans c1
      clear htt
      go_wp2_with fail
      refine (crash_s h4 1 rfl 2 (by omega) (tl keep k k) rfl (by unfold maxLen; omega) ((k : Int) - 1 - t) n1 (by omega)).mono ?_
      rintro e w5 ⟨rfl, h5⟩
      have h6 : Sep W1 w5 [diskI a (sa.crash keep t (clampN n1)), diskI b (sb.crash (fun i => (tl keep k k).getD i false) ((k : Int) - 1 - t) (clampN n1)), rowI 4 (.slice A1 k p1) k ((tl keep k k).map Value.bool)] := h5
      have hsame : ∀ i, 0 ≤ i → (sb.crash (fun i => (tl keep k k).getD i false) ((k : Int) - 1 - t) (clampN n1)).cur i = (sa.crash keep t (clampN n1)).cur i := fun i hi => by
        have ea : (sa.crash keep t (clampN n1)).cur i = crashTo keep t (clampN n1) (lA X k) (fun _ => zeroS) k i := by
          show crashTo keep t (clampN n1) sa.pend sa.held sa.pend.length i = _
          rw [hla, hpa.2.2.1, hpa.2.2.2]
        have eb : (sb.crash (fun i => (tl keep k k).getD i false) ((k : Int) - 1 - t) (clampN n1)).cur i = crashTo (fun j => (tl keep k k).getD j false) ((k : Int) - 1 - t) (clampN n1) (lB X k k) (fun _ => zeroS) k i := by
          show crashTo _ _ (clampN n1) sb.pend sb.held sb.pend.length i = _
          rw [hlb, hpb.2.2.1, hpb.2.2.2]
        rw [ea, eb]
        exact (swap_same X keep k t (clampN n1) (fun _ => zeroS) i hi).symm
      have HS := Lib.hid hsame
      have Z1 := Lib.hid (show (sa.crash keep t (clampN n1)).size = 8 from hpa.2.1)
      have Z2 := Lib.hid (show (sb.crash (fun i => (tl keep k k).getD i false) ((k : Int) - 1 - t) (clampN n1)).size = 8 from hpb.2.1)
      clear hsame h4 h5
      generalize sa.crash keep t (clampN n1) = s1 at *
      generalize sb.crash (fun i => (tl keep k k).getD i false) ((k : Int) - 1 - t) (clampN n1) = s2 at *
      go_wp2_with fail
      go_loopg [16] 8 (fun g t wx => ∃ i : Nat, i + g = 8 ∧ t = .int .i64 i ∧ Sep W1 wx [diskI a s1, diskI b s2, rowI 4 (.slice A1 k p1) k ((tl keep k k).map Value.bool)])
      case atStart => exact ⟨0, rfl, rfl, h6⟩
      case round =>
        obtain ⟨i, hig, rfl, h7⟩ := hrel
        by_cases hi8 : i < 8
        · obtain ⟨g2, rfl⟩ : ∃ g2, gk = g2 + 1 := ⟨gk - 1, by omega⟩
          have hiz : (0 : Int) ≤ (i : Int) := by omega
          have hiz2 : (i : Int) < 8 := by omega
          obtain ⟨Y, hY⟩ : ∃ Y, s1.cur (i : Int) = Y := ⟨_, rfl⟩
          have HY := Lib.hid hY
          have HY2 := Lib.hid ((HS.out (i : Int) hiz).trans hY)
          clear hY
          go_wp2_with fail
          refine (read_s h7 0 rfl (i : Int) (hasC 8 Z1.out (by omega) (by omega)) Y HY.out).mono ?_
          rintro e w8 ⟨rfl, h8⟩
          go_wp2_with fail
          refine (read_s h8 1 rfl (i : Int) (hasC 8 Z2.out (by omega) (by omega)) Y HY2.out).mono ?_
          rintro e w9 ⟨rfl, h9⟩
          go_wp2_with fail
          go_roundg g2
          case measure => omega
          case rel => exact ⟨i + 1, by omega, by go_num, h9⟩
        · obtain rfl : i = 8 := by omega
          go_wp2_with fail
          refine (fixed_any _).mono ?_
          rintro e w6 ⟨rfl, h10⟩
          go_wp2_with fail
          go_ret
          refine ⟨rfl, ?_⟩
          rw [HNB.out]
          exact hWW.trans ((h7.below.trans (h10.mono h7.below.size)).mono (Nat.le_of_lt hnbl))

theorem cellsE2 : Try.prog.cellsOf 3 = 1 := by kernel_rfl
theorem cellsT2 : Try.prog.cellsOf 42 = 2 := by kernel_rfl

set_option maxRecDepth 100000 in
theorem lifted (os : Os) (started : os.Started) (H : Type) (enc : TypeId × Value → H) :
    ReturnsInHanded {} Try.checked os 7 .any (Rows.diskSwapSpec.pre6 enc Try.prog Try.f7 Rows.diskSwapRow.domain false) (Rows.diskSwapSpec.post enc Try.prog Try.f7 false true false false) := by
  refine returnsInHanded_of_change (C := Try.checked) own started (by kernel_rfl) Try.func7
    (ChangeSpec.witness6 (enc := enc) (C := Try.checked) false ⟨#[], #[.slice none 0 0, .slice none 0 0, .agg #[.int .i64 0, .int .i64 0]], []⟩ 8 (by kernel_rfl) (by kernel_rfl) (by kernel_rfl) (by kernel_rfl)) ?_
  intro W base args ds gs before hval0 hW hcnd _
  have hval : ∀ (j : Nat) t v, Try.f7.params[j]? = some t → args[j]? = some v → Value.okWide Try.prog W .any base t v := hval0
  have hW' := hW
  obtain ⟨p, q, hA0, hV, rfl, hfz, hnd⟩ := hW
  have hA : DataW.TrodAll enc Try.prog W 0 (fun _ => true) true Try.f7.params.toList args.toList ds p := hA0
  rw [Try.params7] at hA hval
  obtain ⟨v0, vs0, d0, ds0, p0, q0, hargs, rfl, rfl, h0, r0⟩ := trodAll_cons hA
  obtain ⟨v1, vs1, d1, ds1, p1, q1, rfl, rfl, rfl, h1, r1⟩ := trodAll_cons r0
  obtain ⟨v2, vs2, d2, ds2, p2, q2, rfl, rfl, rfl, h2, r2⟩ := trodAll_cons r1
  obtain ⟨rfl, rfl, rfl⟩ := trodAll_nil r2
  obtain rfl : args = #[v0, v1, v2] := by cases args; simp_all
  obtain ⟨rfl, rfl⟩ := trodVars_none hV
  obtain ⟨A0, n0, c0, f0, rfl, hn0, hc0, hw0⟩ := open_strs Try.underlying40 Try.underlying9 (by kernel_rfl) (hval 0 40 v0 rfl rfl) h0
  obtain ⟨A1, n1, c1, f1, rfl, hn1, hc1, hw1⟩ := open_bools Try.underlying34 Try.underlying4 (by kernel_rfl) (hval 1 34 v1 rfl rfl) h1
  obtain ⟨a2_0, a2_1, rfl, rfl, rfl, w2_0, w2_1⟩ := open_arr2 Try.underlying42 Try.underlying3 cellsE2 cellsT2 (hval 2 42 v2 rfl rfl) h2
  clear hA0 hval0
  try simp only [List.append_nil] at hW'
  try simp only [List.nil_append] at hW'
  have hlt := fun x hx => hW'.lt x hx
  refine (walk A0 n0 c0 f0 A1 n1 c1 f1 a2_0 a2_1 W hn0 hc0 hw0 hn1 hc1 hw1 w2_0 w2_1).mono fun e W' ⟨he, hg⟩ => ?_
  subst he
  refine ⟨_, rfl, post_mem hW' (fun _ _ _ => (trodAll_cons_mk (shut_bool Try.underlying4 _) trodAll_mk0)) (fun sp hsp => ?_) (fun _ => rfl) hg (ok_one (by kernel_rfl) rfl (okWide_bool_mk Try.underlying4 _))⟩
  have hall := (trodAll_cons_mk (arg_same (sp := sp) laid (by kernel_rfl) (of_decide_eq_true (by kernel_rfl)) h0 hg (by intro x hx; simp_all) hlt hsp) (trodAll_cons_mk (arg_same (sp := sp) laid (by kernel_rfl) (of_decide_eq_true (by kernel_rfl)) h1 hg (by intro x hx; simp_all) hlt hsp) (trodAll_cons_mk (arg_same (sp := sp) laid (by kernel_rfl) (of_decide_eq_true (by kernel_rfl)) h2 hg (by intro x hx; simp_all) hlt hsp) trodAll_mk0)))
  try simp only [List.append_nil] at hall
  try simp only [List.nil_append] at hall
  exact hall

theorem over : Rows.diskSwapRow.holds Try.pinned (OpenSpec.ofChange Rows.diskSwapSpec) :=
  OpenClaim.holds_of_wide 7 Try.f7 rfl rfl rfl rfl rfl rfl rfl ⟨rfl, rfl, rfl, rfl, rfl⟩ rfl rfl rfl rfl rfl (by kernel_rfl) Try.func7 (by kernel_rfl)
    (of_decide_eq_true (by kernel_rfl)) (by unfold Func.isWrapper; first | (rw [if_pos (by decide +kernel)]; kernel_rfl) | (rw [if_neg (by decide +kernel)]; exact ⟨rfl, rfl⟩))
    (fun os started H enc _ => lifted os started H enc)

theorem proved : Rows.DiskSwapSaid := over
#print axioms proved
end Go.Proofs.Ytdfgidghiooikaa.diskSwap
