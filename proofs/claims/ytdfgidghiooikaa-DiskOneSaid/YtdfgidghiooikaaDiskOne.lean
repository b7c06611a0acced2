/- For every list of bytes and every list of bools the statement DiskOne about disk.Disk returns true, and changes nothing that was there. Conditions: none. -/
import Derived.Test.YtdfgidghiooikaaDiskI
import Derived.Test.YtdfgidghiooikaaArr
import Derived.StillTailTactics
import Derived.WalkSmall
import Derived.Deep.DeepCutAuto
import Derived.Deep.LoopGhost
import Derived.ProofKit
import Derived.OpenShut
import Derived.ShutString
import Derived.SizedLaws
namespace Go.Proofs.Ytdfgidghiooikaa.diskOne
open Go.ChangeShapes Go.WideShapes Go.ChangeAt Go.RowKit Go.Lib Go.MapKept
open Go.ChangeMaps (open_string shut_string)
set_option linter.unusedVariables false

theorem own : ownKnob Try.prog.godebug = none := by kernel_rfl
theorem laid : laidOutB Try.prog = true := by kernel_rfl

/-- What sector i holds behind a crash that keeps of the first k writes those that it keeps. -/
def wv (keep : Nat → Bool) (l : List (Int × ByteArray)) (k : Nat) (i : Int) : ByteArray := crashTo keep (-1) 128 l (fun _ => zeroS) k i
def wants (keep : Nat → Bool) (l : List (Int × ByteArray)) (k : Nat) : List Value := [.string (wv keep l k 0), .string (wv keep l k 1), .string (wv keep l k 2), .string (wv keep l k 3)]
theorem wants_at (keep : Nat → Bool) (l : List (Int × ByteArray)) (k i : Nat) (hi : i < 4) : (wants keep l k)[i]? = some (.string (wv keep l k (i : Int))) := by
  match i, hi with
  | 0, _ => rfl
  | 1, _ => rfl
  | 2, _ => rfl
  | 3, _ => rfl
theorem wv_step (keep : Nat → Bool) (l : List (Int × ByteArray)) (m : Int) (S : ByteArray) (hS : S.size = 128) (hl : ∀ p ∈ l, p.2.size = 128) (i : Int) :
    wv keep (l ++ [(m, S)]) (l.length + 1) i = if keep l.length = true ∧ i = m then S else wv keep l l.length i := by
  unfold wv
  rw [crashTo_step (p := (m, S)) (by simp), crashTo_append l [(m, S)] l.length (Nat.le_refl _), if_neg (show ¬ ((l.length : Nat) : Int) = -1 by omega)]
  cases keep l.length
  · simp
  · simp only [if_true, do1, true_and]
    by_cases e : i = m
    · rw [if_pos e, if_pos e, mix_all S _ hS (crashTo_size (fun _ => zeroS_size) hl _ _)]
    · rw [if_neg e, if_neg e]
theorem wants_lost (keep : Nat → Bool) (l : List (Int × ByteArray)) (m : Int) (S : ByteArray) (hS : S.size = 128) (hl : ∀ p ∈ l, p.2.size = 128) (hk : keep l.length = false) :
    wants keep (l ++ [(m, S)]) (l.length + 1) = wants keep l l.length := by
  unfold wants
  simp only [wv_step keep l m S hS hl, hk, Bool.false_eq_true, false_and, if_false]
theorem wants_kept (keep : Nat → Bool) (l : List (Int × ByteArray)) (j : Nat) (hj : j < 4) (S : ByteArray) (hS : S.size = 128) (hl : ∀ p ∈ l, p.2.size = 128) (hk : keep l.length = true) :
    wants keep (l ++ [((j : Int), S)]) (l.length + 1) = (wants keep l l.length).set j (.string S) := by
  unfold wants
  simp only [wv_step keep l (j : Int) S hS hl, hk, true_and]
  match j, hj with
  | 0, _ => rfl
  | 1, _ => rfl
  | 2, _ => rfl
  | 3, _ => rfl
def OneSt (s : St) (k : Nat) : Prop := s.set = false ∧ s.size = 4 ∧ s.pend.length = k ∧ s.held = fun _ => zeroS
theorem OneSt.write {s : St} {k : Nat} (h : OneSt s k) (i : Int) (x : ByteArray) : OneSt (s.write i x) (k + 1) :=
  ⟨h.1, h.2.1, by show (s.pend ++ [(i, x)]).length = k + 1; rw [List.length_append, h.2.2.1]; rfl, h.2.2.2⟩

set_option maxRecDepth 100000 in
set_option maxHeartbeats 8000000 in
theorem walk (A : Option Addr) (n c : Nat) (f : Nat → Int) (K : Option Addr) (kn kc : Nat) (keep : Nat → Bool) (W : World) (hn : n ≤ maxLen) (hc : CellsIn W A n (fun j => .int .u8 (f j))) (hw : ∀ j, j < n → (Lit.int .u8 (f j)).wf = true)
    (hkn : kn ≤ maxLen) (hK : CellsIn W K kn (fun j => .bool (keep j))) (hkf : ∀ j, kn ≤ j → keep j = false) :
    Calls Try.prog 5 #[.slice A n c, .slice K kn kc] W fun e w' => e = .returned (.bool true) ∧ Below W.heap.size W w' := by
  have hnz : (n : Int) ≤ 9223372036854775807 := by unfold maxLen at hn; omega
  have hkz : (kn : Int) ≤ 9223372036854775807 := by unfold maxLen at hkn; omega
  clear hn
  go_enter Try.func5, Try.ntmps5
  go_wp2_with fail
  refine (new_own W 4 (by omega) (by omega) (Below.refl _ _)).mono ?_
  rintro e w1 ⟨d, rfl, h1⟩
  go_wp2_with (go_at_call 18; refine (zero_any _).mono ?_; rintro e w0 ⟨rfl, rfl⟩)
  have h2 := own_lit h1 #[.string zeroS, .string zeroS, .string zeroS, .string zeroS] (n := 4) rfl (by unfold maxLen; omega)
  generalize w1.alloc (.cells #[.string zeroS, .string zeroS, .string zeroS, .string zeroS] 9) = w2 at *
  generalize w1.heap.size = gb at *
  go_loopg [8] 20 (fun g t8 wx => ∃ (k : Nat) (s : St), k + g = 20 ∧ k ≤ n ∧ t8 = .int .i64 k ∧ OneSt s k ∧ OwnR W wx d s (.slice (some ⟨gb, 0, none⟩) 4 4) 4 (wants keep s.pend k))
  case atStart => exact ⟨0, _, rfl, Nat.zero_le _, rfl, ⟨rfl, rfl, rfl, rfl⟩, h2⟩
  case round =>
    obtain ⟨k, s, hkg, hkn2, rfl, hS, hO⟩ := hrel
    have hpk : s.pend.length ≤ k := by have := hS.2.2.1; omega
    by_cases hlt : k < n
    · by_cases h40 : k < 20
      · have hkz0 : (0 : Int) ≤ (k : Int) := by omega
        have hkz2 : (k : Int) < (n : Int) := by omega
        have hkz3 : (k : Int) < 20 := by omega
        obtain ⟨g, rfl⟩ : ∃ g, gk = g + 1 := ⟨gk - 1, by omega⟩
        obtain ⟨b, o, rfl, hb, hcell⟩ := hc (by omega)
        have hck : W.cell? ⟨b, o + k, none⟩ = some (.int .u8 (f k)) := hcell k hlt
        obtain ⟨hf0, hf1⟩ := u8_of (hw k hlt)
        generalize f k = z at *
        clear hcell hc hw
        obtain ⟨j, hzj⟩ : ∃ j : Nat, z % 4 = (j : Int) := ⟨(z % 4).toNat, by omega⟩
        have hj4 : j < 4 := by omega
        have hj1 : (0 : Int) ≤ (j : Int) := by omega
        have hj2 : (j : Int) < 4 := by omega
        have h2' := hO.alloc (.cells #[.int .u8 ((k : Int) + 1)] 5)
        have hcv := run_convert_bytes_arg (P := Try.prog) (wr.alloc (.cells #[.int .u8 ((k : Int) + 1)] 5)) 41 5 Try.underlying41 Try.underlying5 wr.heap.size 0 1 1 [(k : Int) + 1] rfl (fun i hi => by
          obtain rfl : i = 0 := by omega
          rw [(Blk.new wr 5 #[.int .u8 ((k : Int) + 1)]).cell]; rfl) 9 Try.underlying9
        have hc2 : (wr.alloc (.cells #[.int .u8 ((k : Int) + 1)] 5)).cell? ⟨b, o + k, none⟩ = some (.int .u8 z) := (h2'.below.cell (p := ⟨b, o + k, none⟩) hb).trans hck
        obtain ⟨S0, hS0⟩ : ∃ x, strOfNums [(k : Int) + 1] = x := ⟨_, rfl⟩
        rw [hS0] at hcv
        have zs0 : S0.size ≤ maxLen := by rw [← hS0]; simp [strOfNums, ByteArray.size, maxLen]
        obtain ⟨S, hFS⟩ : ∃ x, fullS S0 = x := ⟨_, rfl⟩
        have hSz : S.size = 128 := by rw [← hFS]; exact fullS_size _
        have HFS := Lib.hid hFS
        have HSz := Lib.hid hSz
        have hps : ∀ p ∈ s.pend, p.2.size = 128 := fun p hp => (hO.good.pend p hp).1
        clear hS0 hFS hSz
        go_wp2_with fail
        generalize wr.alloc (.cells #[.int .u8 ((k : Int) + 1)] 5) = wa at *
        refine (full_is S0 S _ zs0 HFS.out).mono ?_
        rintro e w0 ⟨rfl, rfl⟩
        go_wp2_with fail
        refine (write_r h2' (j : Int) S (hasC 4 hS.2.1 (by omega) (by omega)) HSz.out (notDead hS.1) (by omega)).mono ?_
        rintro e w3 ⟨rfl, h3⟩
        have hc3 : w3.cell? ⟨b, o + k, none⟩ = some (.int .u8 z) := (h3.below.cell (p := ⟨b, o + k, none⟩) hb).trans hck
        have hcur : (s.write (j : Int) S).cur (j : Int) = S := by
          show over (s.pend ++ [((j : Int), S)]) (j : Int) _ = S
          rw [over_snoc, if_pos rfl]
        have HCU := Lib.hid hcur
        clear hcur hcv hc2
        go_wp2_with fail
        refine (read_r h3 (j : Int) (hasC 4 hS.2.1 (by omega) (by omega)) S HCU.out).mono ?_
        rintro e w4 ⟨rfl, h4⟩
        have hc4 : w4.cell? ⟨b, o + k, none⟩ = some (.int .u8 z) := (h4.below.cell (p := ⟨b, o + k, none⟩) hb).trans hck
        have hS2 := hS.write (j : Int) S
        clear hc3
        have hlen : s.pend.length = k := hS.2.2.1
        by_cases hkk : k < kn
        · obtain ⟨kb, ko, rfl, hkb, hkcell⟩ := hK (by omega)
          have hkc2 : w4.cell? ⟨kb, ko + k, none⟩ = some (.bool (keep k)) := (h4.below.cell (p := ⟨kb, ko + k, none⟩) hkb).trans (hkcell k hkk)
          have hkk2 : (k : Int) < (kn : Int) := by omega
          clear hkcell
          cases hkv : keep k
          · rw [hkv] at hkc2
            have hfin : wants keep (s.write (j : Int) S).pend (k + 1) = wants keep s.pend k := by
              have := wants_lost keep s.pend (j : Int) S HSz.out hps (by rw [hlen]; exact hkv)
              rw [hlen] at this; exact this
            have HF := Lib.hid hfin
            clear hfin hkv hlen
            go_wp2_with fail
            go_roundg g
            case measure => omega
            case rel => exact ⟨k + 1, _, by omega, by omega, by go_num, hS2, by rw [HF.out]; exact h4⟩
          · rw [hkv] at hkc2
            have hfin : wants keep (s.write (j : Int) S).pend (k + 1) = (wants keep s.pend k).set j (.string S) := by
              have := wants_kept keep s.pend j hj4 S HSz.out hps (by rw [hlen]; exact hkv)
              rw [hlen] at this; exact this
            have HF := Lib.hid hfin
            have hg4 := h4.cell j _ (wants_at keep s.pend k j hj4)
            have hfr := h4.free j
            have h5 := h4.set j (.string S)
            clear hfin hkv hlen
            go_wp2_with fail
            go_roundg g
            case measure => omega
            case rel => exact ⟨k + 1, _, by omega, by omega, by go_num, hS2, by rw [HF.out]; exact h5⟩
        · have hkk2 : decide (k < kn) = false := by simp; omega
          have hkk3 : decide ((k : Int) < (kn : Int)) = false := by simp; omega
          have hkv : keep k = false := hkf k (by omega)
          have hfin : wants keep (s.write (j : Int) S).pend (k + 1) = wants keep s.pend k := by
            have := wants_lost keep s.pend (j : Int) S HSz.out hps (by rw [hlen]; exact hkv)
            rw [hlen] at this; exact this
          have HF := Lib.hid hfin
          clear hfin hkv hlen hkk
          go_wp2_with fail
          go_roundg g
          case measure => omega
          case rel => exact ⟨k + 1, _, by omega, by omega, by go_num, hS2, by rw [HF.out]; exact h4⟩
      · obtain rfl : k = 20 := by omega
        have hkz2 : (20 : Int) < (n : Int) := by omega
        go_wp2_with fail
        refine (crash_r hO K kn kc hkn keep (-1) 128 hK hkf (by omega)).mono ?_
        rintro e w3 ⟨rfl, h3⟩
        have hcur : ∀ i, (s.crash keep (-1) (clampN 128)).cur i = wv keep s.pend s.pend.length i := fun i => by
          show crashTo keep (-1) 128 s.pend s.held s.pend.length i = _
          rw [hS.2.2.2]; rfl
        have HC := Lib.hid hcur
        have hsz : (s.crash keep (-1) (clampN 128)).size = 4 := hS.2.1
        have HSZ := Lib.hid hsz
        have HP := Lib.hid hS.2.2.1
        clear hcur hsz
        generalize s.crash keep (-1) (clampN 128) = s2 at *
        go_wp2_with fail
        go_loopg [12] 4 (fun g t wx => ∃ k : Nat, k + g = 4 ∧ t = .int .i64 k ∧ OwnR W wx d s2 (.slice (some ⟨gb, 0, none⟩) 4 4) 4 (wants keep s.pend s.pend.length))
        case atStart => exact ⟨0, rfl, rfl, by have := h3; rw [← HP.out] at this; exact this⟩
        case round =>
          obtain ⟨i, hig, rfl, h4⟩ := hrel
          by_cases hi4 : i < 4
          · obtain ⟨g2, rfl⟩ : ∃ g2, gk = g2 + 1 := ⟨gk - 1, by omega⟩
            have hiz : (0 : Int) ≤ (i : Int) := by omega
            have hiz2 : (i : Int) < 4 := by omega
            go_wp2_with fail
            refine (read_r h4 (i : Int) (hasC 4 HSZ.out (by omega) (by omega)) _ (HC.out (i : Int))).mono ?_
            rintro e w5 ⟨rfl, h5⟩
            have hcell := h5.cell i _ (wants_at keep s.pend s.pend.length i hi4)
            generalize wv keep s.pend s.pend.length (i : Int) = X at *
            go_wp2_with fail
            go_roundg g2
            case measure => omega
            case rel => exact ⟨i + 1, by omega, by go_num, h5⟩
          · obtain rfl : i = 4 := by omega
            go_wp2_with fail
            refine (fixed_any _).mono ?_
            rintro e w6 ⟨rfl, h6⟩
            go_wp2_with fail
            go_ret
            exact ⟨rfl, h4.below.trans (h6.mono h4.below.size)⟩
    · have hk2 : decide (k < n) = false := by simp; omega
      have hk3 : decide ((k : Int) < (n : Int)) = false := by simp; omega
      go_wp2_with fail
      refine (crash_r hO K kn kc hkn keep (-1) 128 hK hkf (by omega)).mono ?_
      rintro e w3 ⟨rfl, h3⟩
      have hcur : ∀ i, (s.crash keep (-1) (clampN 128)).cur i = wv keep s.pend s.pend.length i := fun i => by
        show crashTo keep (-1) 128 s.pend s.held s.pend.length i = _
        rw [hS.2.2.2]; rfl
      have HC := Lib.hid hcur
      have hsz : (s.crash keep (-1) (clampN 128)).size = 4 := hS.2.1
      have HSZ := Lib.hid hsz
      have HP := Lib.hid hS.2.2.1
      clear hcur hsz
      generalize s.crash keep (-1) (clampN 128) = s2 at *
      go_wp2_with fail
      go_loopg [12] 4 (fun g t wx => ∃ k : Nat, k + g = 4 ∧ t = .int .i64 k ∧ OwnR W wx d s2 (.slice (some ⟨gb, 0, none⟩) 4 4) 4 (wants keep s.pend s.pend.length))
      case atStart => exact ⟨0, rfl, rfl, by have := h3; rw [← HP.out] at this; exact this⟩
      case round =>
        obtain ⟨i, hig, rfl, h4⟩ := hrel
        by_cases hi4 : i < 4
        · obtain ⟨g2, rfl⟩ : ∃ g2, gk = g2 + 1 := ⟨gk - 1, by omega⟩
          have hiz : (0 : Int) ≤ (i : Int) := by omega
          have hiz2 : (i : Int) < 4 := by omega
          go_wp2_with fail
          refine (read_r h4 (i : Int) (hasC 4 HSZ.out (by omega) (by omega)) _ (HC.out (i : Int))).mono ?_
          rintro e w5 ⟨rfl, h5⟩
          have hcell := h5.cell i _ (wants_at keep s.pend s.pend.length i hi4)
          generalize wv keep s.pend s.pend.length (i : Int) = X at *
          go_wp2_with fail
          go_roundg g2
          case measure => omega
          case rel => exact ⟨i + 1, by omega, by go_num, h5⟩
        · obtain rfl : i = 4 := by omega
          go_wp2_with fail
          refine (fixed_any _).mono ?_
          rintro e w6 ⟨rfl, h6⟩
          go_wp2_with fail
          go_ret
          exact ⟨rfl, h4.below.trans (h6.mono h4.below.size)⟩

set_option maxRecDepth 100000 in
theorem lifted (os : Os) (started : os.Started) (H : Type) (enc : TypeId × Value → H) :
    ReturnsInHanded {} Try.checked os 5 .any (Rows.diskOneSpec.pre6 enc Try.prog Try.f5 Rows.diskOneRow.domain false) (Rows.diskOneSpec.post enc Try.prog Try.f5 false true false false) := by
  refine returnsInHanded_of_change (C := Try.checked) own started (by kernel_rfl) Try.func5
    (ChangeSpec.witness6 (enc := enc) (C := Try.checked) false ⟨#[], #[.slice none 0 0, .slice none 0 0], []⟩ 8 (by kernel_rfl) (by kernel_rfl) (by kernel_rfl) (by kernel_rfl)) ?_
  intro W base args ds gs before hval0 hW hcnd _
  have hval : ∀ (j : Nat) t v, Try.f5.params[j]? = some t → args[j]? = some v → Value.okWide Try.prog W .any base t v := hval0
  have hW' := hW
  obtain ⟨p, q, hA0, hV, rfl, hfz, hnd⟩ := hW
  have hA : DataW.TrodAll enc Try.prog W 0 (fun _ => true) true Try.f5.params.toList args.toList ds p := hA0
  rw [Try.params5] at hA hval
  obtain ⟨v0, vs0, d0, ds0, p0, q0, hargs, rfl, rfl, h0, r0⟩ := trodAll_cons hA
  obtain ⟨v1, vs1, d1, ds1, p1, q1, rfl, rfl, rfl, h1, r1⟩ := trodAll_cons r0
  obtain ⟨rfl, rfl, rfl⟩ := trodAll_nil r1
  obtain rfl : args = #[v0, v1] := by cases args; simp_all
  obtain ⟨rfl, rfl⟩ := trodVars_none hV
  obtain ⟨A0, n0, c0, f0, rfl, hn0, hc0, hw0⟩ := open_nums Try.underlying41 Try.underlying5 (by kernel_rfl) (hval 0 41 v0 rfl rfl) h0
  obtain ⟨A1, n1, c1, f1, rfl, hn1, hc1, hw1⟩ := open_bools Try.underlying34 Try.underlying4 (by kernel_rfl) (hval 1 34 v1 rfl rfl) h1
  clear hA0 hval0
  try simp only [List.append_nil] at hW'
  try simp only [List.nil_append] at hW'
  have hlt := fun x hx => hW'.lt x hx
  refine (walk A0 n0 c0 f0 A1 n1 c1 f1 W hn0 hc0 hw0 hn1 hc1 hw1).mono fun e W' ⟨he, hg⟩ => ?_
  subst he
  refine ⟨_, rfl, post_mem hW' (fun _ _ _ => (trodAll_cons_mk (shut_bool Try.underlying4 _) trodAll_mk0)) (fun sp hsp => ?_) (fun _ => rfl) hg (ok_one (by kernel_rfl) rfl (okWide_bool_mk Try.underlying4 _))⟩
  have hall := (trodAll_cons_mk (arg_same (sp := sp) laid (by kernel_rfl) (of_decide_eq_true (by kernel_rfl)) h0 hg (by intro x hx; simp_all) hlt hsp) (trodAll_cons_mk (arg_same (sp := sp) laid (by kernel_rfl) (of_decide_eq_true (by kernel_rfl)) h1 hg (by intro x hx; simp_all) hlt hsp) trodAll_mk0))
  try simp only [List.append_nil] at hall
  try simp only [List.nil_append] at hall
  exact hall

theorem over : Rows.diskOneRow.holds Try.pinned (OpenSpec.ofChange Rows.diskOneSpec) :=
  OpenClaim.holds_of_wide 5 Try.f5 rfl rfl rfl rfl rfl rfl rfl ⟨rfl, rfl, rfl, rfl, rfl⟩ rfl rfl rfl rfl rfl (by kernel_rfl) Try.func5 (by kernel_rfl)
    (of_decide_eq_true (by kernel_rfl)) (by unfold Func.isWrapper; first | (rw [if_pos (by decide +kernel)]; kernel_rfl) | (rw [if_neg (by decide +kernel)]; exact ⟨rfl, rfl⟩))
    (fun os started H enc _ => lifted os started H enc)

theorem proved : Rows.DiskOneSaid := over
#print axioms proved
end Go.Proofs.Ytdfgidghiooikaa.diskOne
