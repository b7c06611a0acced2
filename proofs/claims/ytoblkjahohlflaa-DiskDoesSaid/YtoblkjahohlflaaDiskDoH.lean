/- The law DiskDoes: its walk. -/
import Derived.Test.YtoblkjahohlflaaDiskDoG
import Derived.Test.YtoblkjahohlflaaDiskH
namespace Go.Proofs.Ytoblkjahohlflaa
open Go.RowKit Go.MapKept Go.Lib
set_option linter.unusedVariables false

set_option maxRecDepth 100000 in
theorem walk_no (A : Option Addr) (n c : Nat) (z cut : Int) (W : World) (hz : z < 1 ∨ 4096 < z) :
    Calls Try.prog 3 #[.int .i64 z, .slice A n c, .int .u8 cut] W fun e w' => e = .returned (.bool true) ∧ Below W.heap.size W w' := by
  go_enter Try.func3, Try.ntmps3
  go_wp2_with fail
  refine (new_no z hz).mono ?_
  rintro e w1 ⟨rfl, rfl⟩
  go_wp2_with fail
  refine (rnew_no z hz).mono ?_
  rintro e w1 ⟨rfl, rfl⟩
  go_wp2_with fail
  refine (fixed_any _).mono ?_
  rintro e w1 ⟨rfl, hb⟩
  go_wp2_with fail
  go_ret
  exact ⟨rfl, hb⟩

/-- A slice of Ops: its cells by their index. -/
def OpsIn (W : World) (A : Option Addr) (n : Nat) (K I T P : Nat → Int) (S : Nat → ByteArray) (KA : Nat → Option Addr) (km kc : Nat → Nat) : Prop := 0 < n → ∃ b o, A = some ⟨b, o, none⟩ ∧ b < W.heap.size ∧ ∀ j, j < n → W.cell? ⟨b, o + j * 6, none⟩ = some (.int .i64 (K j)) ∧ W.cell? ⟨b, o + j * 6 + 1, none⟩ = some (.int .i64 (I j)) ∧ W.cell? ⟨b, o + j * 6 + 2, none⟩ = some (.string (S j)) ∧ W.cell? ⟨b, o + j * 6 + 3, none⟩ = some (.slice (KA j) (km j) (kc j)) ∧ W.cell? ⟨b, o + j * 6 + 4, none⟩ = some (.int .i64 (T j)) ∧ W.cell? ⟨b, o + j * 6 + 5, none⟩ = some (.int .i64 (P j))

set_option maxRecDepth 100000 in
set_option maxHeartbeats 4000000 in
theorem walk_yes (A : Option Addr) (n c : Nat) (z cut : Int) (W : World) (h1 : 1 ≤ z) (h2 : z ≤ 4096) (hcut : (Lit.int .u8 cut).wf = true) (hn : n ≤ maxLen) (K I T P : Nat → Int) (S : Nat → ByteArray) (KA : Nat → Option Addr) (km kc : Nat → Nat) (keep : Nat → Nat → Bool) (hc : OpsIn W A n K I T P S KA km kc)
    (hS : ∀ j, j < n → (S j).size ≤ maxLen) (hI : ∀ j, j < n → (Lit.int .i64 (I j)).wf = true) (hm : ∀ j, j < n → km j ≤ maxLen) (hk : ∀ j, j < n → CellsIn W (KA j) (km j) (fun i => .bool (keep j i))) (hkf : ∀ j, j < n → ∀ i, km j ≤ i → keep j i = false) :
    Calls Try.prog 3 #[.int .i64 z, .slice A n c, .int .u8 cut] W fun e w' => e = .returned (.bool true) ∧ Below W.heap.size W w' := by
  obtain ⟨u0, u1⟩ := u8_of hcut
  have hnz : (n : Int) ≤ 9223372036854775807 := by unfold maxLen at hn; omega
  clear hcut hn
  go_enter Try.func3, Try.ntmps3
  go_wp2_with fail
  refine (new_s (Sep.nil (Below.refl _ _)) z h1 h2).mono ?_
  rintro e w1 ⟨d, rfl, s1⟩
  go_wp2_with fail
  refine (rnew_s s1 z h1 h2).mono ?_
  rintro e w2 ⟨r, rfl, s2⟩
  go_wp2_with fail
  refine (copy_s s2 (k := 0) rfl (by simp [St.new])).mono ?_
  rintro e w3 ⟨cc, rfl, s3⟩
  go_wp2_with fail
  refine (rcopy_s s3 (k := 1) rfl (by simp [St.new])).mono ?_
  rintro e w4 ⟨q, rfl, s4⟩
  replace s4 := Lib.hid s4
  clear s1 s2 s3
  go_wp2_with fail
  go_loopg [11, 12, 13] 40 (fun g t11 t12 t13 wx => ∃ (k : Nat) (s sc : St) (cc q : Nat), k + g = 40 ∧ k ≤ n ∧ t13 = .int .i64 k ∧ t11 = .pointer (some ⟨cc, 0, none⟩) ∧ t12 = .pointer (some ⟨q, 0, none⟩) ∧ s.pend.length ≤ k ∧ sc.pend.length ≤ k ∧ Sep W wx [diskI d s, refI r s, diskI cc sc, refI q sc])
  case atStart => exact ⟨0, _, _, cc, q, rfl, Nat.zero_le _, rfl, rfl, rfl, Nat.le_refl _, Nat.le_refl _, s4.out⟩
  case round =>
    clear s4
    obtain ⟨k, s, sc, cc, q, hkg, hkn, rfl, rfl, rfl, p1, p2, hO⟩ := hrel
    replace hO := Lib.hid hO
    have FIN : k ≤ 40 := by omega
    by_cases hlt : k < n
    · by_cases h40 : k < 40
      · have hkz : (0 : Int) ≤ (k : Int) := by omega
        have hkz2 : (k : Int) < (n : Int) := by omega
        have hkz3 : (k : Int) < 40 := by omega
        obtain ⟨g, rfl⟩ : ∃ g, gk = g + 1 := ⟨gk - 1, by omega⟩
        obtain ⟨b, o, rfl, hb, hcell⟩ := hc (by omega)
        replace hcell := Lib.hid hcell
        have gS := hS k hlt
        have gI := Lib.hid (hI k hlt)
        have gm := hm k hlt
        have gk' := Lib.hid (hk k hlt)
        have gf := Lib.hid (hkf k hlt)
        have u2 : (0 : Int) ≤ cut := u0
        by_cases hq : (k : Int) = cut % 40
        · have hq2 : ((k : Int) == cut % 40) = true := by rw [beq_iff_eq]; exact hq
          clear hq
          go_wp2_with fail
          refine (copy_s hO.out (k := 0) rfl (by omega)).mono ?_
          rintro e w5 ⟨c2, rfl, s5⟩
          go_wp2_with fail
          refine (rcopy_s s5 (k := 1) rfl (by omega)).mono ?_
          rintro e w6 ⟨q2, rfl, s6⟩
          have s6 := Lib.hid (Sep.pair s6)
          clear s5
          obtain ⟨x0, x1, x2, x3, x4, x5⟩ := hcell.out k hlt
          have y0 : w6.cell? ⟨b, o + k * 6, none⟩ = some (.int .i64 (K k)) := (s6.out.below.cell (p := ⟨b, o + k * 6, none⟩) hb).trans x0
          have y1 : w6.cell? ⟨b, o + k * 6 + 1, none⟩ = some (.int .i64 (I k)) := (s6.out.below.cell (p := ⟨b, o + k * 6 + 1, none⟩) hb).trans x1
          have y2 : w6.cell? ⟨b, o + k * 6 + 2, none⟩ = some (.string (S k)) := (s6.out.below.cell (p := ⟨b, o + k * 6 + 2, none⟩) hb).trans x2
          have y3 : w6.cell? ⟨b, o + k * 6 + 3, none⟩ = some (.slice (KA k) (km k) (kc k)) := (s6.out.below.cell (p := ⟨b, o + k * 6 + 3, none⟩) hb).trans x3
          have y4 : w6.cell? ⟨b, o + k * 6 + 4, none⟩ = some (.int .i64 (T k)) := (s6.out.below.cell (p := ⟨b, o + k * 6 + 4, none⟩) hb).trans x4
          have y5 : w6.cell? ⟨b, o + k * 6 + 5, none⟩ = some (.int .i64 (P k)) := (s6.out.below.cell (p := ⟨b, o + k * 6 + 5, none⟩) hb).trans x5
          clear x0 x1 x2 x3 x4 x5
          go_wp2_with fail
          refine (op_any s6.out (j := 0) (k := 1) rfl rfl (by decide) (by omega) (K k) (I k) (T k) (P k) (S k) (KA k) (km k) (kc k) gS gI.out (keep k) gm gk'.out gf.out).mono ?_
          rintro e w7 ⟨s', rfl, p3, s7⟩
          go_wp2_with fail
          go_roundg g
          case measure => omega
          case rel => exact ⟨k + 1, s', s, c2, q2, by omega, by omega, by go_num, rfl, rfl, by omega, by omega, s7⟩
        · have hq2 : ((k : Int) == cut % 40) = false := by rw [beq_eq_false_iff_ne]; exact hq
          clear hq
          obtain ⟨x0, x1, x2, x3, x4, x5⟩ := hcell.out k hlt
          have y0 : wr.cell? ⟨b, o + k * 6, none⟩ = some (.int .i64 (K k)) := (hO.out.below.cell (p := ⟨b, o + k * 6, none⟩) hb).trans x0
          have y1 : wr.cell? ⟨b, o + k * 6 + 1, none⟩ = some (.int .i64 (I k)) := (hO.out.below.cell (p := ⟨b, o + k * 6 + 1, none⟩) hb).trans x1
          have y2 : wr.cell? ⟨b, o + k * 6 + 2, none⟩ = some (.string (S k)) := (hO.out.below.cell (p := ⟨b, o + k * 6 + 2, none⟩) hb).trans x2
          have y3 : wr.cell? ⟨b, o + k * 6 + 3, none⟩ = some (.slice (KA k) (km k) (kc k)) := (hO.out.below.cell (p := ⟨b, o + k * 6 + 3, none⟩) hb).trans x3
          have y4 : wr.cell? ⟨b, o + k * 6 + 4, none⟩ = some (.int .i64 (T k)) := (hO.out.below.cell (p := ⟨b, o + k * 6 + 4, none⟩) hb).trans x4
          have y5 : wr.cell? ⟨b, o + k * 6 + 5, none⟩ = some (.int .i64 (P k)) := (hO.out.below.cell (p := ⟨b, o + k * 6 + 5, none⟩) hb).trans x5
          clear x0 x1 x2 x3 x4 x5
          go_wp2_with fail
          refine (op_any hO.out (j := 0) (k := 1) rfl rfl (by decide) (by omega) (K k) (I k) (T k) (P k) (S k) (KA k) (km k) (kc k) gS gI.out (keep k) gm gk'.out gf.out).mono ?_
          rintro e w7 ⟨s', rfl, p3, s7⟩
          go_wp2_with fail
          go_roundg g
          case measure => omega
          case rel => exact ⟨k + 1, s', sc, cc, q, by omega, by omega, by go_num, rfl, rfl, by omega, by omega, s7⟩
      · have hkz3 : ¬ (k : Int) < 40 := by omega
        clear hS hI hm hk hkf hc
        go_wp2_with fail
        refine (same_s hO.out (j := 0) (k := 1) rfl rfl (by omega)).mono ?_
        rintro e w8 ⟨rfl, s8⟩
        go_wp2_with fail
        refine (same_s s8 (j := 2) (k := 3) rfl rfl (by omega)).mono ?_
        rintro e w9 ⟨rfl, s9⟩
        have s10 := s9.lit 4 #[.bool true, .bool false, .bool true] 3 rfl (by decide)
        clear s8 s9
        go_wp2_with fail
        refine (crash_s s10 2 rfl 4 (by decide) [true, false, true] rfl (by decide) 1 64 (by omega)).mono ?_
        rintro e wa ⟨rfl, s11⟩
        have s12 := s11.lit 4 #[.bool true, .bool false, .bool true] 3 rfl (by decide)
        clear s10 s11
        go_wp2_with fail
        refine (rcrash_row_s s12 (k := 3) rfl 5 (by decide) [true, false, true] rfl (by decide) 1 64 (by omega)).mono ?_
        rintro e wb ⟨rfl, s13⟩
        clear s12
        go_wp2_with fail
        refine (same_s s13 (j := 2) (k := 3) rfl rfl (by simp [St.crash])).mono ?_
        rintro e wc ⟨rfl, s14⟩
        clear s13
        go_wp2_with fail
        refine (fixed_any _).mono ?_
        rintro e wd ⟨rfl, hb⟩
        go_wp2_with fail
        go_ret
        exact ⟨rfl, s14.below.trans (hb.mono s14.below.size)⟩
    · have hkz2 : ¬ (k : Int) < (n : Int) := by omega
      clear hS hI hm hk hkf hc
      go_wp2_with fail
      refine (same_s hO.out (j := 0) (k := 1) rfl rfl (by omega)).mono ?_
      rintro e w8 ⟨rfl, s8⟩
      go_wp2_with fail
      refine (same_s s8 (j := 2) (k := 3) rfl rfl (by omega)).mono ?_
      rintro e w9 ⟨rfl, s9⟩
      have s10 := s9.lit 4 #[.bool true, .bool false, .bool true] 3 rfl (by decide)
      clear s8 s9
      go_wp2_with fail
      refine (crash_s s10 2 rfl 4 (by decide) [true, false, true] rfl (by decide) 1 64 (by omega)).mono ?_
      rintro e wa ⟨rfl, s11⟩
      have s12 := s11.lit 4 #[.bool true, .bool false, .bool true] 3 rfl (by decide)
      clear s10 s11
      go_wp2_with fail
      refine (rcrash_row_s s12 (k := 3) rfl 5 (by decide) [true, false, true] rfl (by decide) 1 64 (by omega)).mono ?_
      rintro e wb ⟨rfl, s13⟩
      clear s12
      go_wp2_with fail
      refine (same_s s13 (j := 2) (k := 3) rfl rfl (by simp [St.crash])).mono ?_
      rintro e wc ⟨rfl, s14⟩
      clear s13
      go_wp2_with fail
      refine (fixed_any _).mono ?_
      rintro e wd ⟨rfl, hb⟩
      go_wp2_with fail
      go_ret
      exact ⟨rfl, s14.below.trans (hb.mono s14.below.size)⟩

end Go.Proofs.Ytoblkjahohlflaa
