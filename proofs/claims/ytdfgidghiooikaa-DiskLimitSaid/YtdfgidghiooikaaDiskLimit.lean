/- For every list of bytes and every limit the statement DiskLimit about disk.Disk returns true, and changes nothing that was there. Conditions: none. -/
import Derived.Test.YtdfgidghiooikaaDiskH
import Derived.Test.YtdfgidghiooikaaMem
import Derived.Test.YtdfgidghiooikaaArr
import Derived.StillTailTactics
import Derived.WalkSmall
import Derived.Deep.DeepCutAuto
import Derived.Deep.LoopGhost
import Derived.ProofKit
import Derived.OpenShut
import Derived.ShutString
import Derived.SizedLaws
namespace Go.Proofs.Ytdfgidghiooikaa.diskLimit
open Go.ChangeShapes Go.WideShapes Go.ChangeAt Go.RowKit Go.Lib Go.MapKept
open Go.ChangeMaps (open_string shut_string)
set_option linter.unusedVariables false

theorem own : ownKnob Try.prog.godebug = none := by kernel_rfl
theorem laid : laidOutB Try.prog = true := by kernel_rfl

/-- What the law knows of the disk's state behind k calls: L is what is left of the limit. -/
def LimSt (s : St) (k : Nat) (L : Int) : Prop := s.set = true ∧ s.size = 4 ∧ s.pend.length ≤ k ∧ (s.left < 1 ∧ L = 0 ∨ 1 ≤ s.left ∧ L = s.left)
theorem LimSt.more {s : St} {k : Nat} {L : Int} (h : LimSt s k L) : LimSt s (k + 1) L := ⟨h.1, h.2.1, Nat.le_succ_of_le h.2.2.1, h.2.2.2⟩
theorem LimSt.none {s : St} {k : Nat} {L : Int} (h : LimSt s k L) (hL : L < 1) : LimSt s (k + 1) 0 := ⟨h.1, h.2.1, Nat.le_succ_of_le h.2.2.1, by have := h.2.2.2; omega⟩
theorem LimSt.alive {s : St} {k : Nat} {L : Int} (h : LimSt s k L) (hL : 1 ≤ L) : ¬ s.dead := fun hd => by have := h.2.2.2; have := hd.2; omega
theorem LimSt.dead {s : St} {k : Nat} {L : Int} (h : LimSt s k L) (hL : L < 1) : s.dead := ⟨h.1, by have := h.2.2.2; omega⟩
theorem LimSt.used {s : St} {k : Nat} {L : Int} (h : LimSt s k L) (hL : 1 ≤ L) : (s.use.left < 1 ∧ L - 1 = 0 ∨ 1 ≤ s.use.left ∧ L - 1 = s.use.left) := by
  have e : s.use.left = s.left - 1 := by unfold St.use; rw [h.1]; rfl
  have := h.2.2.2
  omega
theorem LimSt.write {s : St} {k : Nat} {L : Int} (h : LimSt s k L) (hL : 1 ≤ L) (i : Int) (x : ByteArray) : LimSt (s.write i x) (k + 1) (L - 1) :=
  ⟨h.1, h.2.1, by show (s.pend ++ [(i, x)]).length ≤ k + 1; rw [List.length_append]; exact Nat.succ_le_succ h.2.2.1, h.used hL⟩
theorem LimSt.flush {s : St} {k : Nat} {L : Int} (h : LimSt s k L) (hL : 1 ≤ L) : LimSt s.flush (k + 1) (L - 1) := ⟨h.1, h.2.1, Nat.zero_le _, h.used hL⟩
theorem LimSt.pos {s : St} {k : Nat} {L : Int} (h : LimSt s k L) : 0 ≤ L ∧ L ≤ max 0 s.left := by have := h.2.2.2; omega

theorem int_eq {k : IntKind} {a b : Int} (h : a = b) : Value.int k a = Value.int k b := by rw [h]
theorem full_still (s x : ByteArray) (w : World) (hs : s.size ≤ maxLen) (hx : fullS s = x) : Calls Try.prog 19 #[.string s] w fun e w' => e = .returned (.string x) ∧ w' = w :=
  (full_is s x w hs hx).mono fun _ _ ⟨he, hw⟩ => ⟨he, hw.symm⟩

set_option maxRecDepth 100000 in
set_option maxHeartbeats 4000000 in
theorem walk (A : Option Addr) (n c : Nat) (f : Nat → Int) (lim : Int) (W : World) (hn : n ≤ maxLen) (hc : CellsIn W A n (fun j => .int .u8 (f j))) (hw : ∀ j, j < n → (Lit.int .u8 (f j)).wf = true) (wl : (Lit.int .i64 lim).wf = true) :
    Calls Try.prog 8 #[.slice A n c, .int .i64 lim] W fun e w' => e = .returned (.bool true) ∧ Below W.heap.size W w' := by
  have hnz : (n : Int) ≤ 9223372036854775807 := by unfold maxLen at hn; omega
  obtain ⟨hl1, hl2⟩ := i64_of wl
  obtain ⟨X, hX⟩ : ∃ x, fullS ⟨#[120]⟩ = x := ⟨_, rfl⟩
  obtain ⟨Y, hY⟩ : ∃ x, fullS ⟨#[121]⟩ = x := ⟨_, rfl⟩
  have HX := Lib.hid hX
  have HY := Lib.hid hY
  have ZX := Lib.hid (show X.size = 128 by rw [← hX]; exact fullS_size _)
  have ZY := Lib.hid (show Y.size = 128 by rw [← hY]; exact fullS_size _)
  clear hn wl hX hY
  go_enter Try.func8, Try.ntmps8
  go_wp2_with fail
  refine (new_own W 4 (by omega) (by omega) (Below.refl _ _)).mono ?_
  rintro e w1 ⟨d, rfl, h1⟩
  go_wp2_with fail
  refine (limit_own h1 lim hl1 hl2).mono ?_
  rintro e w2 ⟨rfl, h2⟩
  go_upto_region 5 with fail
  go_cut [7] (fun t wx => ∃ L : Int, t = .int .i64 L ∧ LimSt ((St.new 4).limit lim) 0 L ∧ w2 = wx)
  case first =>
    by_cases hl : 0 < lim
    · go_wp2_with fail
      go_meet
      case rel => exact ⟨lim, rfl, ⟨rfl, rfl, Nat.le_refl _, .inr ⟨hl, rfl⟩⟩, rfl⟩
    · have hl' : lim ≤ 0 := by omega
      go_wp2_with fail
      all_goals
        go_meet
        case rel => exact ⟨_, rfl, ⟨rfl, rfl, Nat.le_refl _, .inl ⟨by show lim < 1; omega, by omega⟩⟩, rfl⟩
  case rest =>
  obtain ⟨L, rfl, hL, rfl⟩ := hcut
  clear hl1 hl2
  go_wp2_with fail
  go_loopg [7, 8] 40 (fun g t7 t8 wx => ∃ (k : Nat) (s : St) (L : Int), k + g = 40 ∧ k ≤ n ∧ t8 = .int .i64 k ∧ t7 = .int .i64 L ∧ LimSt s k L ∧ Own W wx d s)
  case atStart => exact ⟨0, _, L, rfl, Nat.zero_le _, rfl, rfl, hL, h2⟩
  case round =>
    obtain ⟨k, s, L, hkg, hkn, rfl, rfl, hS, hO⟩ := hrel
    have hL0 := hS.pos.1
    have hpk : s.pend.length ≤ k := hS.2.2.1
    have hLm : L ≤ 9223372036854775807 := by have := hO.good.left2; have := hS.pos.2; omega
    by_cases hlt : k < n
    · by_cases h40 : k < 40
      · have hkz : (0 : Int) ≤ (k : Int) := by omega
        have hkz2 : (k : Int) < (n : Int) := by omega
        have hkz3 : (k : Int) < 40 := by omega
        obtain ⟨g, rfl⟩ : ∃ g, gk = g + 1 := ⟨gk - 1, by omega⟩
        obtain ⟨b, o, rfl, hb, hcell⟩ := hc (by omega)
        have hck := hcell k hlt
        have hck2 : wr.cell? ⟨b, o + k, none⟩ = some (.int .u8 (f k)) := (hO.below.cell (p := ⟨b, o + k, none⟩) hb).trans hck
        obtain ⟨hf0, hf1⟩ := u8_of (hw k hlt)
        generalize f k = z at *
        clear hck hcell
        have hm : z % 4 = 0 ∨ z % 4 = 1 ∨ (2 ≤ z % 4 ∧ z % 4 ≤ 3) := by omega
        rcases hm with hm | hm | ⟨hm1, hm2⟩
        · have hm3 : (z % 4 == 0) = true := by rw [beq_iff_eq]; exact hm
          by_cases hL1 : 1 ≤ L
          · clear hm
            go_wp2_with fail
            refine (flush_own hO (hS.alive hL1) (by omega)).mono ?_
            rintro e w3 ⟨rfl, h3⟩
            go_wp2_with fail
            all_goals
              go_roundg g
              case measure => omega
              case rel => exact ⟨k + 1, _, L - 1, by omega, by omega, by go_num, int_eq (by omega), hS.flush hL1, h3⟩
          · obtain rfl : L = 0 := by omega
            clear hm
            go_wp2_with fail
            refine (flush_dead_own hO (hS.dead (by omega))).mono ?_
            rintro e w3 ⟨rfl, h3⟩
            go_wp2_with fail
            all_goals
              go_roundg g
              case measure => omega
              case rel => exact ⟨k + 1, _, 0, by omega, by omega, by go_num, int_eq (by omega), hS.none (by omega), h3⟩
        · have hm3 : (z % 4 == 0) = false := by rw [beq_eq_false_iff_ne]; omega
          have hm4 : (z % 4 == 1) = true := by rw [beq_iff_eq]; exact hm
          clear hm
          go_wp2_with fail
          refine (full_is ⟨#[120]⟩ X _ (by decide) HX.out).mono ?_
          rintro e w0 ⟨rfl, rfl⟩
          go_wp2_with fail
          refine (write_arg_own hO 9 X (hasN 4 hS.2.1 (by omega))).mono ?_
          rintro e w3 ⟨rfl, h3⟩
          go_wp2_with fail
          all_goals
            go_roundg g
            case measure => omega
            case rel => exact ⟨k + 1, _, L, by omega, by omega, by go_num, int_eq (by omega), hS.more, h3⟩
        · have hm3 : (z % 4 == 0) = false := by rw [beq_eq_false_iff_ne]; omega
          have hm4 : (z % 4 == 1) = false := by rw [beq_eq_false_iff_ne]; omega
          have hz0 : (0 : Int) ≤ z := hf0
          have hck3 : wr.drew.cell? ⟨b, o + k, none⟩ = some (.int .u8 z) := hck2
          have hfs := full_still ⟨#[120]⟩ X wr.drew (by decide) HX.out
          have HFS := Lib.hid hfs
          clear hfs
          go_wp2_with fail
          refine wp_region_still_tail 8 (by kernel_rfl) (by kernel_rfl) ?_
          simp only [List.take_succ_cons, List.take_zero, List.drop_succ_cons, List.drop_zero]
          change wpStill _ _ wr.drew (fun a' => wpList _ _ _ _ a' wr.drew) _ _
          repeat (first | still_call HFS.out | still_step)
          refine wpStill_nil ?_
          by_cases hL1 : 1 ≤ L
          · go_wp2_with fail
            refine (write_own hO.drew (z % 4) X (hasC 4 hS.2.1 (by omega) (by omega)) ZX.out (hS.alive hL1) (by omega)).mono ?_
            rintro e w3 ⟨rfl, h3⟩
            go_wp2_with fail
            all_goals
              go_roundg g
              case measure => omega
              case rel => exact ⟨k + 1, _, L - 1, by omega, by omega, by go_num, int_eq (by omega), hS.write hL1 _ _, h3⟩
          · obtain rfl : L = 0 := by omega
            go_wp2_with fail
            refine (write_dead_own hO.drew (z % 4) X (hasC 4 hS.2.1 (by omega) (by omega)) ZX.out (hS.dead (by omega))).mono ?_
            rintro e w3 ⟨rfl, h3⟩
            go_wp2_with fail
            all_goals
              go_roundg g
              case measure => omega
              case rel => exact ⟨k + 1, _, 0, by omega, by omega, by go_num, int_eq (by omega), hS.none (by omega), h3⟩
      · obtain rfl : k = 40 := by omega
        have hkz2 : (40 : Int) < (n : Int) := by omega
        go_wp2_with fail
        refine (crash_own hO none 0 0 (Nat.zero_le _) (fun _ => false) (-1) 0 (fun F _ _ => ⟨fun h => absurd h (by omega), fun _ _ => rfl⟩) (by omega)).mono ?_
        rintro e w3 ⟨rfl, h3⟩
        go_wp2_with fail
        refine (full_is ⟨#[121]⟩ Y _ (by decide) HY.out).mono ?_
        rintro e w0 ⟨rfl, rfl⟩
        go_wp2_with fail
        refine (write_own h3 0 Y (hasC 4 hS.2.1 (by omega) (by omega)) ZY.out (notDead rfl) (lenC 0 rfl (by decide))).mono ?_
        rintro e w4 ⟨rfl, h4⟩
        go_wp2_with fail
        refine (flush_own h4 (notDead rfl) (lenC 1 rfl (by decide))).mono ?_
        rintro e w5 ⟨rfl, h5⟩
        go_wp2_with fail
        refine (fixed_any _).mono ?_
        rintro e w6 ⟨rfl, h6⟩
        go_wp2_with fail
        go_ret
        exact ⟨rfl, h5.below.trans (h6.mono h5.below.size)⟩
    · have hk2 : decide (k < n) = false := by simp; omega
      have hk3 : decide ((k : Int) < (n : Int)) = false := by simp; omega
      go_wp2_with fail
      refine (crash_own hO none 0 0 (Nat.zero_le _) (fun _ => false) (-1) 0 (fun F _ _ => ⟨fun h => absurd h (by omega), fun _ _ => rfl⟩) (by omega)).mono ?_
      rintro e w3 ⟨rfl, h3⟩
      go_wp2_with fail
      refine (full_is ⟨#[121]⟩ Y _ (by decide) HY.out).mono ?_
      rintro e w0 ⟨rfl, rfl⟩
      go_wp2_with fail
      refine (write_own h3 0 Y (hasC 4 hS.2.1 (by omega) (by omega)) ZY.out (notDead rfl) (lenC 0 rfl (by decide))).mono ?_
      rintro e w4 ⟨rfl, h4⟩
      go_wp2_with fail
      refine (flush_own h4 (notDead rfl) (lenC 1 rfl (by decide))).mono ?_
      rintro e w5 ⟨rfl, h5⟩
      go_wp2_with fail
      refine (fixed_any _).mono ?_
      rintro e w6 ⟨rfl, h6⟩
      go_wp2_with fail
      go_ret
      exact ⟨rfl, h5.below.trans (h6.mono h5.below.size)⟩

set_option maxRecDepth 100000 in
theorem lifted (os : Os) (started : os.Started) (H : Type) (enc : TypeId × Value → H) :
    ReturnsInHanded {} Try.checked os 8 .any (Rows.diskLimitSpec.pre6 enc Try.prog Try.f8 Rows.diskLimitRow.domain false) (Rows.diskLimitSpec.post enc Try.prog Try.f8 false true false false) := by
  refine returnsInHanded_of_change (C := Try.checked) own started (by kernel_rfl) Try.func8
    (ChangeSpec.witness6 (enc := enc) (C := Try.checked) false ⟨#[], #[.slice none 0 0, .int .i64 0], []⟩ 8 (by kernel_rfl) (by kernel_rfl) (by kernel_rfl) (by kernel_rfl)) ?_
  intro W base args ds gs before hval0 hW hcnd _
  have hval : ∀ (j : Nat) t v, Try.f8.params[j]? = some t → args[j]? = some v → Value.okWide Try.prog W .any base t v := hval0
  have hW' := hW
  obtain ⟨p, q, hA0, hV, rfl, hfz, hnd⟩ := hW
  have hA : DataW.TrodAll enc Try.prog W 0 (fun _ => true) true Try.f8.params.toList args.toList ds p := hA0
  rw [Try.params8] at hA hval
  obtain ⟨v0, vs0, d0, ds0, p0, q0, hargs, rfl, rfl, h0, r0⟩ := trodAll_cons hA
  obtain ⟨v1, vs1, d1, ds1, p1, q1, rfl, rfl, rfl, h1, r1⟩ := trodAll_cons r0
  obtain ⟨rfl, rfl, rfl⟩ := trodAll_nil r1
  obtain rfl : args = #[v0, v1] := by cases args; simp_all
  obtain ⟨rfl, rfl⟩ := trodVars_none hV
  obtain ⟨A0, n0, c0, f0, rfl, hn0, hc0, hw0⟩ := open_nums Try.underlying41 Try.underlying5 (by kernel_rfl) (hval 0 41 v0 rfl rfl) h0
  obtain ⟨a1, rfl, rfl, rfl, w1⟩ := open_int Try.underlying3 (hval 1 3 v1 rfl rfl) h1
  clear hA0 hval0
  try simp only [List.append_nil] at hW'
  try simp only [List.nil_append] at hW'
  have hlt := fun x hx => hW'.lt x hx
  refine (walk A0 n0 c0 f0 a1 W hn0 hc0 hw0 w1).mono fun e W' ⟨he, hg⟩ => ?_
  subst he
  refine ⟨_, rfl, post_mem hW' (fun _ _ _ => (trodAll_cons_mk (shut_bool Try.underlying4 _) trodAll_mk0)) (fun sp hsp => ?_) (fun _ => rfl) hg (ok_one (by kernel_rfl) rfl (okWide_bool_mk Try.underlying4 _))⟩
  have hall := (trodAll_cons_mk (arg_same (sp := sp) laid (by kernel_rfl) (of_decide_eq_true (by kernel_rfl)) h0 hg (by intro x hx; simp_all) hlt hsp) (trodAll_cons_mk (arg_same (sp := sp) laid (by kernel_rfl) (of_decide_eq_true (by kernel_rfl)) h1 hg (by intro x hx; simp_all) hlt hsp) trodAll_mk0))
  try simp only [List.append_nil] at hall
  try simp only [List.nil_append] at hall
  exact hall

theorem over : Rows.diskLimitRow.holds Try.pinned (OpenSpec.ofChange Rows.diskLimitSpec) :=
  OpenClaim.holds_of_wide 8 Try.f8 rfl rfl rfl rfl rfl rfl rfl ⟨rfl, rfl, rfl, rfl, rfl⟩ rfl rfl rfl rfl rfl (by kernel_rfl) Try.func8 (by kernel_rfl)
    (of_decide_eq_true (by kernel_rfl)) (by unfold Func.isWrapper; first | (rw [if_pos (by decide +kernel)]; kernel_rfl) | (rw [if_neg (by decide +kernel)]; exact ⟨rfl, rfl⟩))
    (fun os started H enc _ => lifted os started H enc)

theorem proved : Rows.DiskLimitSaid := over
#print axioms proved
end Go.Proofs.Ytdfgidghiooikaa.diskLimit
