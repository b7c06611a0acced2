/- lodgerlaw05.Same: the two disks, of one plain state, read alike. -/
import Derived.Test.YtoblkjahohlflaaDiskRS
namespace Go.Proofs.Ytoblkjahohlflaa
open Go.RowKit Go.MapKept Go.Lib
set_option linter.unusedVariables false

theorem ref_len {W w : World} {items : List Item} {k r : Nat} {s : St} (h : Sep W w items) (hk : items[k]? = some (refI r s)) : ∃ a c, w.cell? ⟨r, 0, none⟩ = some (.slice a s.size.toNat c) := by
  obtain ⟨G, ⟨vL, vW, vT, D⟩, _⟩ := h.at_ k hk
  obtain ⟨a, c, rfl⟩ := own_slice D.rowL
  exact ⟨a, c, D.x0⟩

set_option maxHeartbeats 1000000 in
theorem same_s {W w : World} {items : List Item} {j k d r : Nat} {s : St} (h : Sep W w items) (hj : items[j]? = some (diskI d s)) (hk : items[k]? = some (refI r s)) (hpl : s.pend.length < 1048576) :
    Calls Try.prog 10 #[.pointer (some ⟨d, 0, none⟩), .pointer (some ⟨r, 0, none⟩)] w fun e w' => e = .returned (.int .i64 1) ∧ Sep W w' items := by
  have hg := good_s h j hj
  have g1 := hg.size1
  have g2 := hg.size2
  clear hg
  go_enter Try.func10, Try.ntmps10
  go_wp2_with fail
  go_loopg [5, 6, 7, 8, 9] (min s.size 64).toNat (fun g t a b c e wx => ∃ i : Nat, i + g = (min s.size 64).toNat ∧ t = .int .i64 i ∧ Sep W wx items)
  case atStart => exact ⟨0, by omega, rfl, h⟩
  case round =>
    obtain ⟨i, hig, rfl, h3⟩ := hrel
    clear h
    obtain ⟨a, c, x0⟩ := ref_len h3 hk
    cases gk with
    | zero =>
      have HI := Lib.hid hig
      by_cases h64 : s.size ≤ 64
      · have e : (i : Int) = s.size := by omega
        have b1 : decide ((i : Int) < max s.size 0) = false := by rw [decide_eq_false_iff_not]; omega
        have b2 : ¬ (i : Int) < max s.size 0 := by omega
        clear hig e
        go_wp2_with fail
        go_ret
        exact ⟨rfl, h3⟩
      · have e : i = 64 := by omega
        subst e
        have b1 : (64 : Int) < max s.size 0 := by omega
        clear hig
        go_wp2_with fail
        go_ret
        exact ⟨rfl, h3⟩
    | succ g =>
      have b1 : (i : Int) < max s.size 0 := by omega
      have b2 : (i : Int) < 64 := by omega
      have hi : s.has (i : Int) := ⟨by omega, by omega⟩
      have HIG := Lib.hid hig
      clear hig
      go_wp2_with fail
      refine (read_s h3 j hj i hi _ rfl).mono ?_
      rintro e w4 ⟨rfl, h4⟩
      clear x0 h3
      go_wp2_with fail
      refine (rread_s h4 hk i hi hpl).mono ?_
      rintro e w5 ⟨rfl, rfl⟩
      go_wp2_with fail
      go_roundg g
      case measure => omega
      case rel => exact ⟨i + 1, by have := HIG.out; omega, by go_num, h4⟩

end Go.Proofs.Ytoblkjahohlflaa
