/- Contracts of Zero and Full: a sector's bytes at first, and a sector's bytes of some, again and again. -/
import Derived.Test.YtoblkjahohlflaaDiskF
namespace Go.Proofs.Ytoblkjahohlflaa
open Go.RowKit Go.MapKept Go.Lib
set_option linter.unusedVariables false

def zeroTo (k : Nat) : ByteArray := ⟨Array.replicate k (0 : UInt8)⟩
theorem zeroTo_0 : zeroTo 0 = ByteArray.empty := rfl
theorem zeroTo_succ (k : Nat) : zeroTo k ++ ⟨#[0]⟩ = zeroTo (k + 1) := by
  apply ByteArray.ext
  rw [ByteArray.data_append]
  show Array.replicate k (0 : UInt8) ++ #[0] = Array.replicate (k + 1) 0
  rw [Array.replicate_succ]
  rfl
theorem zeroTo_128 : zeroTo 128 = zeroS := rfl
theorem zeroTo_size (k : Nat) : (zeroTo k).size = k := by simp [zeroTo, ByteArray.size]

set_option maxHeartbeats 1000000 in
theorem zero_any (w : World) : Calls Try.prog 13 #[] w fun e w' => e = .returned (.string zeroS) ∧ w = w' := by
  go_enter Try.func13, Try.ntmps13
  go_wp2
  go_loop [1, 2] (fun t i => ∃ k : Nat, k ≤ 128 ∧ i = .int .i64 k ∧ t = .string (zeroTo k)) (fun _ i => 128 - (intOf i).toNat)
  case atStart => exact ⟨0, by omega, rfl, rfl⟩
  case round =>
    obtain ⟨k, hk, rfl, rfl⟩ := hrel
    have hz := zeroTo_size k
    have hzs := zeroTo_succ k
    by_cases hlt : k < 128
    · have hlz : (k : Int) < 128 := by omega
      go_wp2
      go_round
      case rel => exact ⟨k + 1, by omega, by go_num, by rw [← hzs]⟩
      case measure => simp [intOf]; omega
    · obtain rfl : k = 128 := by omega
      clear hz hzs
      go_wp2
      go_ret
      exact ⟨by rw [zeroTo_128]; rfl, rfl⟩

def fullTo (s : ByteArray) : Nat → ByteArray → ByteArray
  | 0, t => t
  | f + 1, t => if t.size < 128 then fullTo s f (if s.size ≤ 128 - t.size then t ++ s else t ++ s.extract 0 (128 - t.size)) else t
def fullS (s : ByteArray) : ByteArray := if s.size = 0 then zeroS else fullTo s 128 ByteArray.empty

theorem fullTo_size (s : ByteArray) (hs : 0 < s.size) : ∀ (f : Nat) (t : ByteArray), t.size ≤ 128 → 128 - t.size ≤ f → (fullTo s f t).size = 128
  | 0, t, h1, h2 => by simp only [fullTo]; omega
  | f + 1, t, h1, h2 => by
    unfold fullTo
    split
    · split
      · refine fullTo_size s hs f _ ?_ ?_ <;> rw [ByteArray.size_append] <;> omega
      · refine fullTo_size s hs f _ ?_ ?_ <;> rw [ByteArray.size_append, ByteArray.size_extract] <;> omega
    · omega
theorem fullS_size (s : ByteArray) : (fullS s).size = 128 := by
  unfold fullS
  split
  · exact zeroS_size
  · exact fullTo_size s (by omega) 128 _ (by simp) (by simp)

set_option maxHeartbeats 1000000 in
theorem full_any (s : ByteArray) (w : World) (hs : s.size ≤ maxLen) : Calls Try.prog 15 #[.string s] w fun e w' => e = .returned (.string (fullS s)) ∧ w = w' := by
  unfold maxLen at hs
  by_cases h0 : s.size = 0
  · have hb : s = ByteArray.empty := by
      apply ByteArray.ext
      exact Array.eq_empty_of_size_eq_zero h0
    subst hb
    have hf : fullS ByteArray.empty = zeroS := rfl
    have HF := Lib.hid hf
    clear hf h0 hs
    go_enter Try.func15, Try.ntmps15
    go_wp2_with fail
    refine (zero_any _).mono ?_
    rintro e w' ⟨rfl, rfl⟩
    go_wp2_with fail
    go_ret
    exact ⟨by rw [HF.out]; rfl, rfl⟩
  · have hne : s.toList.isEmpty = false := by
      rw [Go.Lib.toList_data]
      cases hd : s.data.toList with
      | nil =>
        have := len_data s
        rw [hd] at this
        simp at this
        omega
      | cons a r => rfl
    have hf : fullS s = fullTo s 128 ByteArray.empty := by unfold fullS; rw [if_neg h0]
    obtain ⟨R, hR⟩ : ∃ R, R = fullTo s 128 ByteArray.empty := ⟨_, rfl⟩
    rw [← hR] at hf
    have HF := Lib.hid hf
    have HR := Lib.hid hR
    have hs1 : 1 ≤ s.size := by omega
    clear hf hs h0 hR
    go_enter Try.func15, Try.ntmps15
    go_wp2_with fail
    go_loopg [3] 128 (fun g t wx => ∃ T : ByteArray, t = .string T ∧ T.size ≤ 128 ∧ 128 - T.size ≤ g ∧ fullTo s g T = R ∧ wx = w)
    case atStart => exact ⟨ByteArray.empty, rfl, by simp, by simp, HR.out.symm, rfl⟩
    case round =>
      obtain ⟨T, rfl, hT, hg, hfl, rfl⟩ := hrel
      have HL := Lib.hid hfl
      clear hfl
      by_cases hlt : T.size < 128
      · have hlz : (T.size : Int) < 128 := by omega
        have hlz0 : (0 : Int) ≤ (T.size : Int) := by omega
        obtain ⟨g, rfl⟩ : ∃ g, gk = g + 1 := ⟨gk - 1, by omega⟩
        have hl2 := HL.out
        unfold fullTo at hl2
        rw [if_pos hlt] at hl2
        by_cases hm : s.size ≤ 128 - T.size
        · have hmz : (s.size : Int) ≤ 128 - (T.size : Int) := by omega
          rw [if_pos hm] at hl2
          have H2 := Lib.hid hl2
          have HG : Hid ((T ++ s).size ≤ 128 ∧ 128 - (T ++ s).size ≤ g) := Lib.hid (by rw [ByteArray.size_append]; omega)
          clear hm hlt hl2 hT hg HL
          go_wp2
          go_roundg g
          case measure => omega
          case rel => exact ⟨T ++ s, rfl, HG.out.1, HG.out.2, H2.out, rfl⟩
        · have hmz : 128 - (T.size : Int) < (s.size : Int) := by omega
          rw [if_neg hm] at hl2
          have H2 := Lib.hid hl2
          have HG : Hid ((T ++ s.extract 0 (128 - T.size)).size ≤ 128 ∧ 128 - (T ++ s.extract 0 (128 - T.size)).size ≤ g) := Lib.hid (by rw [ByteArray.size_append, ByteArray.size_extract]; omega)
          clear hm hlt hl2 hT hg HL
          go_wp2
          go_roundg g
          case measure => omega
          case rel => exact ⟨_, rfl, HG.out.1, HG.out.2, H2.out, rfl⟩
      · have hf2 : fullTo s gk T = T := by
          cases gk with
          | zero => rfl
          | succ g => unfold fullTo; rw [if_neg hlt]
        have h3 : fullS s = T := by rw [HF.out, ← HL.out, hf2]
        have H3 := Lib.hid h3
        have hlz : decide ((T.size : Int) < 128) = false := by simp; omega
        clear hf2 h3 hT hg HL hlt
        go_wp2
        go_ret
        exact ⟨by rw [H3.out]; rfl, rfl⟩

end Go.Proofs.Ytoblkjahohlflaa
