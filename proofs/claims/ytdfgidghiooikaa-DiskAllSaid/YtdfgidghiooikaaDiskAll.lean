/- For every list of pairs of bytes the statement DiskAll about disk.Disk returns true, and changes nothing that was there. Conditions: none. -/
import Derived.Test.YtdfgidghiooikaaSep
import Derived.StillTailTactics
import Derived.WalkSmall
import Derived.Deep.DeepCutAuto
import Derived.Deep.LoopGhost
import Derived.ProofKit
import Derived.OpenShut
import Derived.ShutString
import Derived.SizedLaws
namespace Go.Proofs.Ytdfgidghiooikaa.diskAll
open Go.ChangeShapes Go.WideShapes Go.ChangeAt Go.RowKit Go.Lib Go.MapKept
open Go.ChangeMaps (open_string shut_string)
set_option linter.unusedVariables false

theorem own : ownKnob Try.prog.godebug = none := by kernel_rfl
theorem laid : laidOutB Try.prog = true := by kernel_rfl

def keeps (k : Nat) : List Bool := List.replicate k true
def mosts (k : Nat) : List Bool := (List.range k).map fun i => decide (0 < i)
theorem keeps_succ (k : Nat) : (keeps (k + 1)).map Value.bool = (keeps k).map Value.bool ++ [.bool true] := by simp [keeps, List.replicate_succ']
theorem mosts_succ (k : Nat) : (mosts (k + 1)).map Value.bool = (mosts k).map Value.bool ++ [.bool (decide (0 < k))] := by simp [mosts, List.range_succ]
theorem keeps_at (k j : Nat) (h : j < k) : (keeps k).getD j false = true := by simp [keeps, List.getD, h]
theorem mosts_at (k j : Nat) (h : j < k) (h0 : 0 < j) : (mosts k).getD j false = true := by simp [mosts, List.getD, h, h0]
def AllSt (s : St) (k : Nat) : Prop := s.set = false ∧ s.size = 6 ∧ s.pend.length = k
theorem AllSt.write {s : St} {k : Nat} (h : AllSt s k) (i : Int) (x : ByteArray) : AllSt (s.write i x) (k + 1) :=
  ⟨h.1, h.2.1, by show (s.pend ++ [(i, x)]).length = k + 1; rw [List.length_append, h.2.2]; rfl⟩
theorem row_slice {W w : World} {items : List Item} (h : Sep W w items) (k : Nat) {t : TypeId} {v : Value} {n : Nat} {xs : List Value} (hk : items[k]? = some (rowI t v n xs)) : ∃ A p, v = .slice A n p := by
  obtain ⟨G, ⟨hr, _⟩, _⟩ := h.at_ k hk
  exact own_slice hr

set_option maxRecDepth 100000 in
set_option maxHeartbeats 8000000 in
theorem walk (A : Option Addr) (n c : Nat) (f g : Nat → Int) (W : World) (hn : n ≤ maxLen) (hc : PairsIn W A n .u8 f g) (hw : ∀ j, j < n → (Lit.int .u8 (f j)).wf = true ∧ (Lit.int .u8 (g j)).wf = true) :
    Calls Try.prog 6 #[.slice A n c] W fun e w' => e = .returned (.bool true) ∧ Below W.heap.size W w' := by
  have hnz : (n : Int) ≤ 9223372036854775807 := by unfold maxLen at hn; omega
  clear hn
  go_enter Try.func6, Try.ntmps6
  go_wp2_with fail
  refine (new_s (Sep.nil (Below.refl _ _)) 6 (by omega) (by omega)).mono ?_
  rintro e w1 ⟨a, rfl, h1⟩
  go_wp2_with fail
  refine (new_s h1 6 (by omega) (by omega)).mono ?_
  rintro e w2 ⟨b, rfl, h2⟩
  go_wp2_with fail
  refine (new_s h2 6 (by omega) (by omega)).mono ?_
  rintro e w3 ⟨d, rfl, h3⟩
  have h4 := (h3.lit 4 #[] 0 rfl (Nat.zero_le _)).lit 4 #[] 0 rfl (Nat.zero_le _)
  rw [show (w3.alloc (.cells #[] 4)).heap.size = w3.heap.size + 1 by simp] at h4
  go_wp2_with fail
  go_loopg [9, 10, 11] 20 (fun g t9 t10 t11 wx => ∃ (k : Nat) (s : St) (v1 v2 : Value), k + g = 20 ∧ k ≤ n ∧ t11 = .int .i64 k ∧ t9 = v1 ∧ t10 = v2 ∧ AllSt s k ∧ Sep W wx [diskI a s, diskI b s, diskI d s, rowI 4 v1 k ((keeps k).map Value.bool), rowI 4 v2 k ((mosts k).map Value.bool)])
  case atStart => exact ⟨0, _, _, _, rfl, Nat.zero_le _, rfl, rfl, rfl, ⟨rfl, rfl, rfl⟩, h4⟩
  case round =>
    obtain ⟨k, s, v1, v2, hkg, hkn2, rfl, rfl, rfl, hS, hO⟩ := hrel
    obtain ⟨A1, p1, rfl⟩ := row_slice hO 3 rfl
    obtain ⟨A2, p2, rfl⟩ := row_slice hO 4 rfl
    have hpk : s.pend.length ≤ k := by have := hS.2.2; omega
    by_cases hlt : k < n
    · by_cases h40 : k < 20
      · have hkz0 : (0 : Int) ≤ (k : Int) := by omega
        have hkz2 : (k : Int) < (n : Int) := by omega
        have hkz3 : (k : Int) < 20 := by omega
        obtain ⟨gq, rfl⟩ : ∃ gq, gk = gq + 1 := ⟨gk - 1, by omega⟩
        obtain ⟨bb, o, rfl, hb, hcell⟩ := hc (by omega)
        have hck := (hcell k hlt).1
        have hck1 := (hcell k hlt).2
        obtain ⟨hf0, hf1⟩ := u8_of (hw k hlt).1
        obtain ⟨hg0, hg1⟩ := u8_of (hw k hlt).2
        generalize f k = z at *
        generalize g k = y at *
        clear hcell hc hw
        obtain ⟨j, hzj⟩ : ∃ j : Nat, z % 6 = (j : Int) := ⟨(z % 6).toNat, by omega⟩
        have hj4 : j < 6 := by omega
        have hj1 : (0 : Int) ≤ (j : Int) := by omega
        have hj2 : (j : Int) < 6 := by omega
        have hy : wr.cell? ⟨bb, o + k * 2 + 1, none⟩ = some (.int .u8 y) := (hO.below.cell (p := ⟨bb, o + k * 2 + 1, none⟩) hb).trans hck1
        have h2' := hO.alloc (.cells #[.int .u8 y] 5)
        have hcv := run_convert_bytes_arg (P := Try.prog) (wr.alloc (.cells #[.int .u8 y] 5)) 41 5 Try.underlying41 Try.underlying5 wr.heap.size 0 1 1 [y] rfl (fun i hi => by
          obtain rfl : i = 0 := by omega
          rw [(Blk.new wr 5 #[.int .u8 y]).cell]; rfl) 9 Try.underlying9
        have hc2 : (wr.alloc (.cells #[.int .u8 y] 5)).cell? ⟨bb, o + k * 2, none⟩ = some (.int .u8 z) := (h2'.below.cell (p := ⟨bb, o + k * 2, none⟩) hb).trans hck
        obtain ⟨S0, hS0⟩ : ∃ x, strOfNums [y] = x := ⟨_, rfl⟩
        rw [hS0] at hcv
        have zs0 : S0.size ≤ maxLen := by rw [← hS0]; simp [strOfNums, ByteArray.size, maxLen]
        obtain ⟨S, hFS⟩ : ∃ x, fullS S0 = x := ⟨_, rfl⟩
        have HFS := Lib.hid hFS
        have HSz := Lib.hid (show S.size = 128 by rw [← hFS]; exact fullS_size _)
        obtain ⟨B, hB1⟩ : ∃ B, decide (0 < k) = B := ⟨_, rfl⟩
        have hB2 : decide ((0 : Int) < (k : Int)) = B := by rw [← hB1]; simp
        have HM := Lib.hid (mosts_succ k)
        rw [hB1] at HM
        clear hS0 hFS
        go_wp2_with fail
        generalize wr.alloc (.cells #[.int .u8 y] 5) = wa at *
        refine (full_is S0 S _ zs0 HFS.out).mono ?_
        rintro e w0 ⟨rfl, rfl⟩
        go_wp2_with fail
        try rw [hzj]
        refine (write_s h2' 0 rfl (j : Int) S (hasC 6 hS.2.1 (by omega) (by omega)) HSz.out (notDead hS.1) (by omega)).mono ?_
        rintro e w3 ⟨rfl, h3⟩
        clear hcv hc2 h4
        go_wp2_with fail
        refine (write_s h3 1 rfl (j : Int) S (hasC 6 hS.2.1 (by omega) (by omega)) HSz.out (notDead hS.1) (by omega)).mono ?_
        rintro e w4 ⟨rfl, h4⟩
        go_wp2_with fail
        refine (write_s h4 2 rfl (j : Int) S (hasC 6 hS.2.1 (by omega) (by omega)) HSz.out (notDead hS.1) (by omega)).mono ?_
        rintro e w5 ⟨rfl, h5⟩
        have h6 : Sep W w5 [diskI a (s.write (j : Int) S), diskI b (s.write (j : Int) S), diskI d (s.write (j : Int) S), rowI 4 (.slice A1 k p1) k ((keeps k).map Value.bool), rowI 4 (.slice A2 k p2) k ((mosts k).map Value.bool)] := h5
        have hS2 := hS.write (j : Int) S
        clear h3 h4 h5
        go_wp2_with (first
          | (at_builtin; with_reducible refine wp_append_bool (B := true) rfl (.tmp 101) (.tmp 102) rfl rfl rfl h6 3 rfl (by omega) ?_; intro v5 w6 h7)
          | (at_builtin; with_reducible refine wp_append_bool (B := B) rfl (.tmp 104) (.tmp 107) rfl rfl rfl h7 4 rfl (by omega) ?_; intro v6 w7 h8))
        go_roundg gq
        case measure => omega
        case rel => exact ⟨k + 1, _, v5, v6, by omega, by omega, by go_num, rfl, rfl, hS2, by rw [keeps_succ, HM.out]; exact h8⟩
      · obtain rfl : k = 20 := by omega
        have hkz2 : (20 : Int) < (n : Int) := by omega
        go_wp2_with fail
        refine (flush_s hO 0 rfl (notDead hS.1) (by omega)).mono ?_
        rintro e w3 ⟨rfl, h3⟩
        go_wp2_with fail
        refine (crash_s h3 1 rfl 3 (by omega) (keeps 20) rfl (by unfold maxLen; omega) 0 5 (by omega)).mono ?_
        rintro e w4 ⟨rfl, h4⟩
        go_wp2_with fail
        refine (crash_s h4 2 rfl 4 (by omega) (mosts 20) rfl (by unfold maxLen; omega) 0 128 (by omega)).mono ?_
        rintro e w5 ⟨rfl, h5⟩
        have hgd := good_s hO 0 rfl
        have hlen : s.pend.length = 20 := hS.2.2
        have c1 : ∀ i, s.flush.cur i = s.cur i := fun i => flush_held hgd i
        have c2 : ∀ i, (s.crash (fun i => (keeps 20).getD i false) 0 (clampN 5)).cur i = s.cur i := crash_full hgd (fun j hj => .inl (keeps_at 20 j (by omega)))
        have c3 : ∀ i, (s.crash (fun i => (mosts 20).getD i false) 0 (clampN 128)).cur i = s.cur i := crash_full hgd (fun j hj => by
          by_cases e : j = 0
          · exact .inr ⟨by omega, rfl⟩
          · exact .inl (mosts_at 20 j (by omega) (by omega)))
        have C1 := Lib.hid c1
        have C2 := Lib.hid c2
        have C3 := Lib.hid c3
        have P1 := Lib.hid (show (s.flush.pend.length : Int) = 0 from rfl)
        have P2 := Lib.hid (show ((s.crash (fun i => (keeps 20).getD i false) 0 (clampN 5)).pend.length : Int) = 0 from rfl)
        have Z1 := Lib.hid (show s.flush.size = 6 from hS.2.1)
        have Z2 := Lib.hid (show (s.crash (fun i => (keeps 20).getD i false) 0 (clampN 5)).size = 6 from hS.2.1)
        have Z3 := Lib.hid (show (s.crash (fun i => (mosts 20).getD i false) 0 (clampN 128)).size = 6 from hS.2.1)
        have h6 : Sep W w5 [diskI a s.flush, diskI b (s.crash (fun i => (keeps 20).getD i false) 0 (clampN 5)), diskI d (s.crash (fun i => (mosts 20).getD i false) 0 (clampN 128)), rowI 4 (.slice A1 20 p1) 20 ((keeps 20).map Value.bool), rowI 4 (.slice A2 20 p2) 20 ((mosts 20).map Value.bool)] := h5
        clear c1 c2 c3 h3 h4 h5 hlen
        generalize s.crash (fun i => (mosts 20).getD i false) 0 (clampN 128) = s3 at *
        generalize s.crash (fun i => (keeps 20).getD i false) 0 (clampN 5) = s2 at *
        generalize s.flush = s1 at *
        go_wp2_with fail
        go_loopg [14] 6 (fun g t wx => ∃ i : Nat, i + g = 6 ∧ t = .int .i64 i ∧ Sep W wx [diskI a s1, diskI b s2, diskI d s3, rowI 4 (.slice A1 20 p1) 20 ((keeps 20).map Value.bool), rowI 4 (.slice A2 20 p2) 20 ((mosts 20).map Value.bool)])
        case atStart => exact ⟨0, rfl, rfl, h6⟩
        case round =>
          obtain ⟨i, hig, rfl, h7⟩ := hrel
          by_cases hi6 : i < 6
          · obtain ⟨g2, rfl⟩ : ∃ g2, gk = g2 + 1 := ⟨gk - 1, by omega⟩
            have hiz : (0 : Int) ≤ (i : Int) := by omega
            have hiz2 : (i : Int) < 6 := by omega
            go_wp2_with fail
            refine (read_s h7 0 rfl (i : Int) (hasC 6 Z1.out (by omega) (by omega)) _ (C1.out (i : Int))).mono ?_
            rintro e w8 ⟨rfl, h8⟩
            go_wp2_with fail
            refine (read_s h8 1 rfl (i : Int) (hasC 6 Z2.out (by omega) (by omega)) _ (C2.out (i : Int))).mono ?_
            rintro e w9 ⟨rfl, h9⟩
            go_wp2_with fail
            refine (read_s h9 2 rfl (i : Int) (hasC 6 Z3.out (by omega) (by omega)) _ (C3.out (i : Int))).mono ?_
            rintro e w10 ⟨rfl, h10⟩
            generalize s.cur (i : Int) = X at *
            go_wp2_with fail
            go_roundg g2
            case measure => omega
            case rel => exact ⟨i + 1, by omega, by go_num, h10⟩
          · obtain rfl : i = 6 := by omega
            go_wp2_with fail
            refine (pending_s h7 0 rfl 0 P1.out).mono ?_
            rintro e w8 ⟨rfl, h8⟩
            go_wp2_with fail
            refine (pending_s h8 1 rfl 0 P2.out).mono ?_
            rintro e w9 ⟨rfl, h9⟩
            go_wp2_with fail
            refine (fixed_any _).mono ?_
            rintro e w6 ⟨rfl, h10⟩
            go_wp2_with fail
            go_ret
            exact ⟨rfl, h9.below.trans (h10.mono h9.below.size)⟩
    · have hk2 : decide (k < n) = false := by simp; omega
      have hk3 : decide ((k : Int) < (n : Int)) = false := by simp; omega
      go_wp2_with fail
      refine (flush_s hO 0 rfl (notDead hS.1) (by omega)).mono ?_
      rintro e w3 ⟨rfl, h3⟩
      go_wp2_with fail
      refine (crash_s h3 1 rfl 3 (by omega) (keeps k) rfl (by unfold maxLen; omega) 0 5 (by omega)).mono ?_
      rintro e w4 ⟨rfl, h4⟩
      go_wp2_with fail
      refine (crash_s h4 2 rfl 4 (by omega) (mosts k) rfl (by unfold maxLen; omega) 0 128 (by omega)).mono ?_
      rintro e w5 ⟨rfl, h5⟩
      have hgd := good_s hO 0 rfl
      have hlen : s.pend.length = k := hS.2.2
      have c1 : ∀ i, s.flush.cur i = s.cur i := fun i => flush_held hgd i
      have c2 : ∀ i, (s.crash (fun i => (keeps k).getD i false) 0 (clampN 5)).cur i = s.cur i := crash_full hgd (fun j hj => .inl (keeps_at k j (by omega)))
      have c3 : ∀ i, (s.crash (fun i => (mosts k).getD i false) 0 (clampN 128)).cur i = s.cur i := crash_full hgd (fun j hj => by
        by_cases e : j = 0
        · exact .inr ⟨by omega, rfl⟩
        · exact .inl (mosts_at k j (by omega) (by omega)))
      have C1 := Lib.hid c1
      have C2 := Lib.hid c2
      have C3 := Lib.hid c3
      have P1 := Lib.hid (show (s.flush.pend.length : Int) = 0 from rfl)
      have P2 := Lib.hid (show ((s.crash (fun i => (keeps k).getD i false) 0 (clampN 5)).pend.length : Int) = 0 from rfl)
      have Z1 := Lib.hid (show s.flush.size = 6 from hS.2.1)
      have Z2 := Lib.hid (show (s.crash (fun i => (keeps k).getD i false) 0 (clampN 5)).size = 6 from hS.2.1)
      have Z3 := Lib.hid (show (s.crash (fun i => (mosts k).getD i false) 0 (clampN 128)).size = 6 from hS.2.1)
      have h6 : Sep W w5 [diskI a s.flush, diskI b (s.crash (fun i => (keeps k).getD i false) 0 (clampN 5)), diskI d (s.crash (fun i => (mosts k).getD i false) 0 (clampN 128)), rowI 4 (.slice A1 k p1) k ((keeps k).map Value.bool), rowI 4 (.slice A2 k p2) k ((mosts k).map Value.bool)] := h5
      clear c1 c2 c3 h3 h4 h5 hlen
      generalize s.crash (fun i => (mosts k).getD i false) 0 (clampN 128) = s3 at *
      generalize s.crash (fun i => (keeps k).getD i false) 0 (clampN 5) = s2 at *
      generalize s.flush = s1 at *
      go_wp2_with fail
      go_loopg [14] 6 (fun g t wx => ∃ i : Nat, i + g = 6 ∧ t = .int .i64 i ∧ Sep W wx [diskI a s1, diskI b s2, diskI d s3, rowI 4 (.slice A1 k p1) k ((keeps k).map Value.bool), rowI 4 (.slice A2 k p2) k ((mosts k).map Value.bool)])
      case atStart => exact ⟨0, rfl, rfl, h6⟩
      case round =>
        obtain ⟨i, hig, rfl, h7⟩ := hrel
        by_cases hi6 : i < 6
        · obtain ⟨g2, rfl⟩ : ∃ g2, gk = g2 + 1 := ⟨gk - 1, by omega⟩
          have hiz : (0 : Int) ≤ (i : Int) := by omega
          have hiz2 : (i : Int) < 6 := by omega
          go_wp2_with fail
          refine (read_s h7 0 rfl (i : Int) (hasC 6 Z1.out (by omega) (by omega)) _ (C1.out (i : Int))).mono ?_
          rintro e w8 ⟨rfl, h8⟩
          go_wp2_with fail
          refine (read_s h8 1 rfl (i : Int) (hasC 6 Z2.out (by omega) (by omega)) _ (C2.out (i : Int))).mono ?_
          rintro e w9 ⟨rfl, h9⟩
          go_wp2_with fail
          refine (read_s h9 2 rfl (i : Int) (hasC 6 Z3.out (by omega) (by omega)) _ (C3.out (i : Int))).mono ?_
          rintro e w10 ⟨rfl, h10⟩
          generalize s.cur (i : Int) = X at *
          go_wp2_with fail
          go_roundg g2
          case measure => omega
          case rel => exact ⟨i + 1, by omega, by go_num, h10⟩
        · obtain rfl : i = 6 := by omega
          go_wp2_with fail
          refine (pending_s h7 0 rfl 0 P1.out).mono ?_
          rintro e w8 ⟨rfl, h8⟩
          go_wp2_with fail
          refine (pending_s h8 1 rfl 0 P2.out).mono ?_
          rintro e w9 ⟨rfl, h9⟩
          go_wp2_with fail
          refine (fixed_any _).mono ?_
          rintro e w6 ⟨rfl, h10⟩
          go_wp2_with fail
          go_ret
          exact ⟨rfl, h9.below.trans (h10.mono h9.below.size)⟩

set_option maxRecDepth 100000 in
theorem lifted (os : Os) (started : os.Started) (H : Type) (enc : TypeId × Value → H) :
    ReturnsInHanded {} Try.checked os 6 .any (Rows.diskAllSpec.pre6 enc Try.prog Try.f6 Rows.diskAllRow.domain false) (Rows.diskAllSpec.post enc Try.prog Try.f6 false true false false) := by
  refine returnsInHanded_of_change (C := Try.checked) own started (by kernel_rfl) Try.func6
    (ChangeSpec.witness6 (enc := enc) (C := Try.checked) false ⟨#[], #[.slice none 0 0], []⟩ 8 (by kernel_rfl) (by kernel_rfl) (by kernel_rfl) (by kernel_rfl)) ?_
  intro W base args ds gs before hval0 hW hcnd _
  have hval : ∀ (j : Nat) t v, Try.f6.params[j]? = some t → args[j]? = some v → Value.okWide Try.prog W .any base t v := hval0
  have hW' := hW
  obtain ⟨p, q, hA0, hV, rfl, hfz, hnd⟩ := hW
  have hA : DataW.TrodAll enc Try.prog W 0 (fun _ => true) true Try.f6.params.toList args.toList ds p := hA0
  rw [Try.params6] at hA hval
  obtain ⟨v0, vs0, d0, ds0, p0, q0, hargs, rfl, rfl, h0, r0⟩ := trodAll_cons hA
  obtain ⟨rfl, rfl, rfl⟩ := trodAll_nil r0
  obtain rfl : args = #[v0] := by cases args; simp_all
  obtain ⟨rfl, rfl⟩ := trodVars_none hV
  obtain ⟨A0, n0, c0, f0, g0, rfl, hn0, hc0, hw0⟩ := open_pairs Try.underlying52 Try.underlying53 Try.underlying5 (by kernel_rfl) (by kernel_rfl) (hval 0 52 v0 rfl rfl) h0
  clear hA0 hval0
  try simp only [List.append_nil] at hW'
  try simp only [List.nil_append] at hW'
  have hlt := fun x hx => hW'.lt x hx
  refine (walk A0 n0 c0 f0 g0 W hn0 hc0 hw0).mono fun e W' ⟨he, hg⟩ => ?_
  subst he
  refine ⟨_, rfl, post_mem hW' (fun _ _ _ => (trodAll_cons_mk (shut_bool Try.underlying4 _) trodAll_mk0)) (fun sp hsp => ?_) (fun _ => rfl) hg (ok_one (by kernel_rfl) rfl (okWide_bool_mk Try.underlying4 _))⟩
  have hall := (trodAll_cons_mk (arg_same (sp := sp) laid (by kernel_rfl) (of_decide_eq_true (by kernel_rfl)) h0 hg (by intro x hx; simp_all) hlt hsp) trodAll_mk0)
  try simp only [List.append_nil] at hall
  try simp only [List.nil_append] at hall
  exact hall

theorem over : Rows.diskAllRow.holds Try.pinned (OpenSpec.ofChange Rows.diskAllSpec) :=
  OpenClaim.holds_of_wide 6 Try.f6 rfl rfl rfl rfl rfl rfl rfl ⟨rfl, rfl, rfl, rfl, rfl⟩ rfl rfl rfl rfl rfl (by kernel_rfl) Try.func6 (by kernel_rfl)
    (of_decide_eq_true (by kernel_rfl)) (by unfold Func.isWrapper; first | (rw [if_pos (by decide +kernel)]; kernel_rfl) | (rw [if_neg (by decide +kernel)]; exact ⟨rfl, rfl⟩))
    (fun os started H enc _ => lifted os started H enc)

theorem proved : Rows.DiskAllSaid := over
#print axioms proved
end Go.Proofs.Ytdfgidghiooikaa.diskAll
