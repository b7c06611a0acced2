/- The document's own disk (lodgerref05): Crash. -/
import Derived.Test.YtoblkjahohlflaaDiskRC
import Derived.Deep.DeepCutAuto
import Derived.Lib.MinMax
namespace Go.Proofs.Ytoblkjahohlflaa
open Go.RowKit Go.MapKept Go.Lib
set_option linter.unusedVariables false

theorem clampN_le (a : Int) : clampN a ≤ 128 := by unfold clampN; split; omega; split; omega; omega

theorem mix_ext (n : Nat) (a b : ByteArray) : a.extract 0 n ++ b.extract n b.size = mix n a b := by
  apply ByteArray.ext
  apply Array.ext'
  rw [ByteArray.data_append, ByteArray.data_extract, ByteArray.data_extract, Array.toList_append, Array.toList_extract, Array.toList_extract]
  show _ = a.data.toList.take n ++ b.data.toList.drop n
  have hz : b.size - n = (b.data.toList.drop n).length := by simp
  simp only [List.extract_eq_take_drop, Nat.sub_zero, List.drop_zero]
  rw [hz, List.take_length]

set_option maxRecDepth 8000 in
set_option maxHeartbeats 2000000 in
theorem rcrash_any {w : World} {r : Nat} {F : Nat → Prop} {s : St} (D : RefAt w r F s) (A : Option Addr) (n c : Nat) (hn : n ≤ maxLen) (keep : Nat → Bool) (torn pos : Int) (hk : KeepIs w F A n keep) (hpl : s.pend.length < 1048576) :
    Calls Try.prog 12 #[.pointer (some ⟨r, 0, none⟩), .slice A n c, .int .i64 torn, .int .i64 pos] w fun e w' => e = .returned (.tuple #[]) ∧ RefAt w' r F (s.crash keep torn (clampN pos)) ∧ Only F w w' := by
  have hgood : (s.crash keep torn (clampN pos)).Good := D.good.crash _ _ _
  unfold maxLen at hn
  have hg1 := D.good
  obtain ⟨vL, vW, vT, D2⟩ := D
  obtain ⟨gL, cL, rfl, _⟩ := own_at D2.rowL (rL_at (i := 0) ⟨Int.le_refl _, by have := hg1.size1; omega⟩)
  obtain ⟨aW, cW, rfl⟩ := own_slice D2.rowW
  obtain ⟨aT, cT, rfl⟩ := own_slice D2.rowT
  have HK := Lib.hid hk
  have hm := clampN_le pos
  generalize hmm : clampN pos = m at *
  have HG := Lib.hid hgood
  have HM := Lib.hid hmm
  clear hgood hk hmm
  go_enter Try.func12, Try.ntmps12
  go_upto_region 0 with fail
  go_cut [8] (fun v wx => v = .int .i64 (m : Int) ∧ w = wx)
  case first =>
    clear D2 hg1 HG HK hn hpl
    have E := Lib.hid (show max 0 (min pos 128) = (m : Int) by rw [← HM.out]; unfold clampN; (repeat' split) <;> omega)
    clear HM
    go_wp2_with fail
    go_meet
    exact ⟨by rw [← E.out], rfl⟩
  case rest =>
  obtain ⟨rfl, rfl⟩ := hcut
  clear HM
  go_wp2_with fail
  go_loopg [9, 10] s.pend.length (fun g t z wx => ∃ k : Nat, k + g = s.pend.length ∧ t = .int .i64 k ∧ RefIn wx r (.slice (some ⟨gL, 0, none⟩) s.size.toNat cL) (.slice aW s.pend.length cW) (.slice aT s.pend.length cT) F (s.did (crashTo keep torn m s.pend s.held k)) ∧ Only F w wx)
  case atStart => exact ⟨0, by omega, rfl, D2, Only.refl _ _⟩
  case round =>
    obtain ⟨k, hkg, rfl, D3, O3⟩ := hrel
    clear D2
    cases gk with
    | zero =>
      obtain rfl : k = s.pend.length := by omega
      have x1 := D3.x1
      have x2 := D3.x2
      have x3 := D3.x3
      have f1 := D3.blk.frozen 1
      have f2 := D3.blk.frozen 2
      have f3 := D3.blk.frozen 3
      have B1 := ((D3.blk.set_ 1 (.slice none 0 0)).set_ 2 (.slice none 0 0)).set_ 3 (.int .i64 (-1))
      simp only [List.setIfInBounds_toArray, List.set_cons_succ, List.set_cons_zero] at B1
      have o1 : Only (fun i => i = r) wr (((wr.setCell ⟨r, 1, none⟩ (.slice none 0 0)).setCell ⟨r, 2, none⟩ (.slice none 0 0)).setCell ⟨r, 3, none⟩ (.int .i64 (-1))) :=
        (((Only.refl (fun i => i = r) wr).setCell (p := ⟨r, 1, none⟩) (.inl rfl) _).setCell (p := ⟨r, 2, none⟩) (.inl rfl) _).setCell (p := ⟨r, 3, none⟩) (.inl rfl) _
      have D4 := RefIn.drop (q := 0) (s' := s.crash keep torn m) D3 B1 o1 rfl rfl rfl HG.out
      have HD := Lib.hid (⟨_, _, _, D4⟩ : RefAt _ r F (s.crash keep torn m))
      have HO := Lib.hid (O3.trans o1 (fun i e => .inl (by rw [e]; exact D3.fr)))
      clear D4 D3 B1 o1 O3
      go_wp2_with fail
      go_end0
      exact ⟨rfl, HD.out, HO.out⟩
    | succ g =>
      have hlt : k < s.pend.length := by omega
      have hkz : (0 : Int) ≤ (k : Int) := by omega
      have hkz2 : (k : Int) < (s.pend.length : Int) := by omega
      have e2 : s.pend[k]? = some s.pend[k] := List.getElem?_eq_getElem hlt
      generalize s.pend[k] = p at e2
      have hpg := D3.good.pend p (List.mem_of_getElem? e2)
      have x0 := D3.x0
      have x1 := D3.x1
      have x2 := D3.x2
      have hst := crashTo_step (keep := keep) (torn := torn) (n := m) (h := s.held) e2
      obtain ⟨gW, c', eW, hW, _⟩ := own_at (u := .int .i64 p.1) (k := k) D3.rowW (by show (rW s.pend)[k]? = _; simp [rW, e2])
      obtain ⟨gT, c'', eT, hT, _⟩ := own_at (u := .string p.2) (k := k) D3.rowT (by show (rT s.pend)[k]? = _; simp [rT, e2])
      obtain ⟨gL', cL', eL, hL, fL⟩ := own_at D3.rowL (rL_at (i := p.1) hpg.2)
      have eW' : aW = some ⟨gW, 0, none⟩ := by injection eW
      have eT' : aT = some ⟨gT, 0, none⟩ := by injection eT
      have eL' : gL = gL' := by injection eL with a; injection a with a; injection a
      subst eW' eT' eL'
      have hh : ∀ i, (crashTo keep torn m s.pend s.held k i).size = 128 := fun i => D3.good.held i
      have HL : wr.cell? ⟨gL, p.1.toNat, none⟩ = some (.string (crashTo keep torn m s.pend s.held k p.1)) := hL
      have hy : ∀ q, do1 (crashTo keep torn m s.pend s.held k) p q = fun j => if j = p.1 then mix q p.2 (crashTo keep torn m s.pend s.held k p.1) else crashTo keep torn m s.pend s.held k j := fun q => by
        funext j; unfold do1; split
        · next e => rw [e]
        · rfl
      have PUT : ∀ q y, mix q p.2 (crashTo keep torn m s.pend s.held k p.1) = y → crashTo keep torn m s.pend s.held (k + 1) = do1 (crashTo keep torn m s.pend s.held k) p q →
          RefIn (wr.setCell ⟨gL, p.1.toNat, none⟩ (.string y)) r (.slice (some ⟨gL, 0, none⟩) s.size.toNat cL) (.slice (some ⟨gW, 0, none⟩) s.pend.length cW) (.slice (some ⟨gT, 0, none⟩) s.pend.length cT) F (s.did (crashTo keep torn m s.pend s.held (k + 1))) ∧ Only F w (wr.setCell ⟨gL, p.1.toNat, none⟩ (.string y)) := fun q y e1 e2 => by
        obtain ⟨D4, O4⟩ := RefIn.put D3 p.1 hpg.2 y (by rw [← e1]; exact mix_size _ _ _ hpg.1 (hh _))
        refine ⟨?_, O3.trans O4 (fun i hi => .inl hi)⟩
        rw [e2, hy q, e1]
        exact D4
      have PUT := Lib.hid PUT
      have KEPT := Lib.hid (fun (e : crashTo keep torn m s.pend s.held (k + 1) = crashTo keep torn m s.pend s.held k) => (show RefIn wr r (.slice (some ⟨gL, 0, none⟩) s.size.toNat cL) (.slice (some ⟨gW, 0, none⟩) s.pend.length cW) (.slice (some ⟨gT, 0, none⟩) s.pend.length cT) F (s.did (crashTo keep torn m s.pend s.held (k + 1))) ∧ Only F w wr from ⟨by rw [e]; exact D3, O3⟩))
      have hk4 := HK.out.only O3
      have hps := hpg.1
      have p1 := hpg.2.1
      have p2 : p.1 < s.size := hpg.2.2
      have p3 : p.1.toNat < s.size.toNat := by omega
      have p4 : p.1 < (s.size.toNat : Int) := by omega
      have p5 : p.1 < max s.size 0 := by omega
      have hh1 := hh p.1
      have HST := Lib.hid hst
      have HKG := Lib.hid hkg
      generalize hX : crashTo keep torn m s.pend s.held k p.1 = X at *
      clear D3 O3 hst eW eT eL e2 hpg hkg HG hL hh hy HK
      by_cases hkn : k < n
      · obtain ⟨kb, ko, rfl, hkF, hkc⟩ := hk4.1 (by omega)
        have hc := hkc k hkn
        have hkn2 : (k : Int) < (n : Int) := by omega
        clear hkc hk4
        cases hkk : keep k
        · rw [hkk] at hc
          by_cases ht : (k : Int) = torn
          · have P := Lib.hid (PUT.out m (p.2.extract 0 m ++ X.extract m X.size) (mix_ext m p.2 X).symm (by rw [HST.out, hkk, if_neg (by decide), if_pos ht]))
            have hbt : ((k : Int) == torn) = true := beq_iff_eq.2 ht
            have m1 : (m : Int) ≤ (p.2.size : Int) := by omega
            have m2 : (m : Int) ≤ (X.size : Int) := by omega
            have m3 : m ≤ p.2.size := by omega
            have m4 : m ≤ X.size := by omega
            have HP := Lib.hid hps
            have HZ := Lib.hid hh1
            have y1 := Lib.hid (show (p.2.extract 0 m).size ≤ 128 by rw [ByteArray.size_extract]; omega)
            have y2 := Lib.hid (show (X.extract m X.size).size ≤ 128 by rw [ByteArray.size_extract]; omega)
            clear hps hh1 PUT KEPT HST hkk ht
            go_wp2_with fail
            refine wp_region_still_tail 25 (by kernel_rfl) (by kernel_rfl) ?_
            simp only [List.take_succ_cons, List.take_zero, List.drop_succ_cons, List.drop_zero]
            change wpStill _ _ wr.drew (fun a' => wpList _ _ _ _ a' wr.drew) _ _
            iterate 23 still_step
            generalize p.2.extract 0 m = Y1 at *
            generalize X.extract m X.size = Y2 at *
            have z1 := y1.out
            have z2 := y2.out
            have z3 : ¬ 9223372036854775807 < Y1.size + Y2.size := by omega
            repeat still_step
            refine wpStill_nil ?_
            go_wp2_with fail
            go_roundg g
            case measure => omega
            case rel => exact ⟨k + 1, by have := HKG.out; omega, by go_num, P.out.1.drew, P.out.2.drew⟩
          · have P := Lib.hid (KEPT.out (by rw [HST.out, hkk, if_neg (by decide), if_neg ht]))
            have hbt : ((k : Int) == torn) = false := beq_eq_false_iff_ne.2 ht
            clear PUT KEPT HST hkk ht
            go_wp2_with fail
            go_roundg g
            case measure => omega
            case rel => exact ⟨k + 1, by have := HKG.out; omega, by go_num, P.out.1, P.out.2⟩
        · rw [hkk] at hc
          have P := Lib.hid (PUT.out 128 p.2 (mix_all _ _ hps hh1) (by rw [HST.out, if_pos hkk]))
          clear PUT KEPT HST hkk
          go_wp2_with fail
          refine wp_region_still_tail 13 (by kernel_rfl) (by kernel_rfl) ?_
          simp only [List.take_succ_cons, List.take_zero, List.drop_succ_cons, List.drop_zero]
          change wpStill _ _ wr.drew (fun a' => wpList _ _ _ _ a' wr.drew) _ _
          repeat still_step
          refine wpStill_nil ?_
          go_wp2_with fail
          go_roundg g
          case measure => omega
          case rel => exact ⟨k + 1, by have := HKG.out; omega, by go_num, P.out.1.drew, P.out.2.drew⟩
      · have hkk : keep k = false := hk4.2 k (by omega)
        have hkn2 : ¬ (k : Int) < (n : Int) := by omega
        have hkn3 : decide ((k : Int) < (n : Int)) = false := by simp; omega
        clear hk4
        by_cases ht : (k : Int) = torn
        · have P := Lib.hid (PUT.out m (p.2.extract 0 m ++ X.extract m X.size) (mix_ext m p.2 X).symm (by rw [HST.out, hkk, if_neg (by decide), if_pos ht]))
          have hbt : ((k : Int) == torn) = true := beq_iff_eq.2 ht
          have m1 : (m : Int) ≤ (p.2.size : Int) := by omega
          have m2 : (m : Int) ≤ (X.size : Int) := by omega
          have m3 : m ≤ p.2.size := by omega
          have m4 : m ≤ X.size := by omega
          have HP := Lib.hid hps
          have HZ := Lib.hid hh1
          have y1 := Lib.hid (show (p.2.extract 0 m).size ≤ 128 by rw [ByteArray.size_extract]; omega)
          have y2 := Lib.hid (show (X.extract m X.size).size ≤ 128 by rw [ByteArray.size_extract]; omega)
          clear hps hh1 PUT KEPT HST hkk ht
          go_wp2_with fail
          refine wp_region_still_tail 25 (by kernel_rfl) (by kernel_rfl) ?_
          simp only [List.take_succ_cons, List.take_zero, List.drop_succ_cons, List.drop_zero]
          change wpStill _ _ wr.drew (fun a' => wpList _ _ _ _ a' wr.drew) _ _
          iterate 23 still_step
          generalize p.2.extract 0 m = Y1 at *
          generalize X.extract m X.size = Y2 at *
          have z1 := y1.out
          have z2 := y2.out
          have z3 : ¬ 9223372036854775807 < Y1.size + Y2.size := by omega
          repeat still_step
          refine wpStill_nil ?_
          go_wp2_with fail
          go_roundg g
          case measure => omega
          case rel => exact ⟨k + 1, by have := HKG.out; omega, by go_num, P.out.1.drew, P.out.2.drew⟩
        · have P := Lib.hid (KEPT.out (by rw [HST.out, hkk, if_neg (by decide), if_neg ht]))
          have hbt : ((k : Int) == torn) = false := beq_eq_false_iff_ne.2 ht
          clear PUT KEPT HST hkk ht
          go_wp2_with fail
          go_roundg g
          case measure => omega
          case rel => exact ⟨k + 1, by have := HKG.out; omega, by go_num, P.out.1, P.out.2⟩

end Go.Proofs.Ytoblkjahohlflaa
