/- A part of the proofs of the statements about logs. -/
import Derived.Test.YtdpmjlbkojhooaaGreatPLiG
namespace Go.Proofs.YtdpmjlbkojhooaaGreat.Lg
open Go.ChangeShapes Go.WideShapes Go.ChangeAt Go.RowKit Go.Lib Go.Joins Go.Deep
open Tb (Tab TIn Sl okP csT lastN nth Fresh)
open Dk (St Only Grew)
set_option linter.unusedVariables false
set_option maxRecDepth 100000
section
variable {H : Type} {enc : TypeId × Value → H} {W : World}
theorem trod_bools {fuel : Nat} {v : Value} {x : DataW H × List MemPlace} (hf : DataW.trod enc Tryz.prog W 0 (fun _ => true) true fuel 81 [v] = some x) :
    ∃ (A : Option Addr) (n c : Nat) (f : Nat → Bool), v = .slice A n c ∧ n ≤ maxLen ∧ CellsIn W A n (fun j => .bool (f j)) ∧ ∀ j, n ≤ j → f j = false := by
  have ht := Tryz.underlying81
  have he := Tryz.underlying4
  have hca : Tryz.prog.cellsOf 4 = 1 := by kernel_rfl
  rcases open_slice1 ht hca hf with ⟨h0, _⟩ | ⟨a, len, cap, m, k, V, D, Pl, hcs, _, hl, hm, hmm, _, hi⟩
  · obtain rfl : v = .slice none 0 0 := by simpa using h0
    exact ⟨none, 0, 0, fun _ => false, rfl, Nat.zero_le _, fun h => absurd h (by omega), fun _ _ => rfl⟩
  · obtain rfl : v = .slice (some a) len cap := by simpa using hcs
    simp only [if_true] at hmm
    subst hmm
    obtain ⟨f, hf⟩ := choose_lt (α := Bool) (n := len) (p := fun j z => V j = .bool z) (fun j hj => by
      obtain ⟨z, e1, _⟩ := DataW.trod_bool he (hi j (by omega)).2
      exact ⟨z, by simpa using e1⟩)
    refine ⟨some a, len, m, fun j => decide (j < len) && f j, rfl, Nat.le_trans hl hm, fun hn => ?_, fun j hj => by simp [show ¬ j < len by omega]⟩
    have h0 := (hi 0 (by omega)).1
    have ha : a.add 0 = a := by unfold Addr.add; simp
    rw [ha] at h0
    obtain ⟨e1, e2⟩ := spot_none h0
    refine ⟨a.block, a.off, by rw [← e1], e2, fun j hj => ?_⟩
    have := (hi j (by omega)).1
    rw [e1, Addr.add_mid] at this
    rw [this, hf j hj]
    simp [hj]
theorem open_crash {b0 : Nat} {r' : Reach} {v : Value} {y : DataW H} {ps : List MemPlace}
    (hv : Value.okWide Tryz.prog W r' b0 83 v) (h : DataW.Trod enc Tryz.prog W 0 (fun _ => true) true 83 v y ps) :
    ∃ (lim : Int) (A : Option Addr) (N c : Nat) (f : Nat → Bool) (torn pos : Int), v = .agg #[.int .i64 lim, .slice A N c, .int .i64 torn, .int .i64 pos] ∧ (-9223372036854775808 ≤ lim ∧ lim ≤ 9223372036854775807) ∧ N ≤ maxLen ∧ CellsIn W A N (fun j => .bool (f j)) ∧ ∀ j, N ≤ j → f j = false := by
  obtain ⟨cs, rfl, hsz⟩ := okWide_struct Tryz.underlying83 hv
  obtain ⟨c0, c1, c2, c3, rfl⟩ := array4 (hsz.trans (by kernel_rfl))
  obtain ⟨fuel, hf⟩ := h
  obtain ⟨xs, n, _, _, _, hlen, hff⟩ := DataW.trod_struct Tryz.underlying83 (by simpa [Value.cells] using hf)
  match xs, hlen with
  | [y0, y1, y2, y3], _ =>
    have k1 : Tryz.prog.cellsOf 3 = 1 := by kernel_rfl
    have k2 : Tryz.prog.cellsOf 81 = 1 := by kernel_rfl
    have g0 := hff 0 _ rfl
    have g1 := hff 1 _ rfl
    have g2 := hff 2 _ rfl
    have g3 := hff 3 _ rfl
    simp [k1, k2] at g0 g1 g2 g3
    obtain ⟨K, e0, _, w0⟩ := DataW.trod_int Tryz.underlying3 g0
    obtain ⟨A, m, c, f, rfl, h1, h2, h3⟩ := trod_bools g1
    obtain ⟨T, e2, _, w2⟩ := DataW.trod_int Tryz.underlying3 g2
    obtain ⟨R, e3, _, w3⟩ := DataW.trod_int Tryz.underlying3 g3
    simp at e0 e2 e3
    subst e0 e2 e3
    exact ⟨K, A, m, c, f, T, R, rfl, i64_of w0, h1, h2, h3⟩
end
theorem chk_z {s : St} {gn : Int} {S : ByteArray} : (chkS s gn S).1.size = s.size := by
  unfold chkS
  split
  · rfl
  · split
    · rfl
    · split <;> rfl
theorem clamp_le (n : Int) : Dk.clampN n ≤ 128 := by
  unfold Dk.clampN
  first
    | omega
    | (split <;> first | omega | (split <;> omega))
theorem mix_sz {k : Nat} {M A B : ByteArray} (h : MixOf k M A B) (hA : A.size = 128) (hB : B.size = 128) : M.size ≤ 256 := by
  unfold MixOf at h
  have h1 : A.data.toList.length = 128 := hA ▸ (Go.Lib.size_eq A).symm
  have h2 : B.data.toList.length = 128 := hB ▸ (Go.Lib.size_eq B).symm
  rw [Go.Lib.size_eq, h, List.length_append, List.length_take, List.length_drop]
  omega
theorem lasts_two {c : Nat} {t : Tab} {s : St} {ls many lim torn : Int} {keep : Nat → Bool} {n : Nat} (hP : LogP c t s ls 1) (hc : c ≤ 1000) (hs : s.set = false) (h1 : s.cur 1 = S0) (hm : 0 ≤ many ∧ many ≤ 1000) (hl : -9223372036854775808 ≤ lim ∧ lim ≤ 9223372036854775807) (hn : n ≤ 128) :
    ∃ s3 s4 g4 e4 T, chkS s 1 (chkB t 1 1 ls many) = (s3, 2, 0) ∧ LogP (c + 1) t s3 ls 2 ∧ LogP (c + 1) t (s3.limit lim) ls 2 ∧ chkS (s3.limit lim) 2 (chkB t 2 1 ls 99) = (s4, g4, e4) ∧ 2 ≤ s4.size ∧ s4.pend.length < 1048576 ∧
      (s4.crash keep torn n).cur 0 = chkB t 1 1 ls many ∧ (s4.crash keep torn n).cur 1 = T ∧ T.size ≤ 256 ∧ (chkB t 1 1 ls many).size = 128 ∧ Cp.bestE (chkB t 1 1 ls many).data.toList T.data.toList = 0 ∧
      (Cp.bestC (chkB t 1 1 ls many).data.toList T.data.toList = ⟨2, 1, ls, many, t.o, t.l⟩ ∨ Cp.bestC (chkB t 1 1 ls many).data.toList T.data.toList = ⟨3, 1, ls, 99, t.o, t.l⟩) := by
  have b1 := hP.ls1
  have b2 := hP.ls2
  have z2 : (chkB t 1 1 ls many).size = 128 := chkB_size hP.ok (by decide) b1
  have z3 : (chkB t 2 1 ls 99).size = 128 := chkB_size hP.ok (by decide) b1
  have hp3 := chk_p hP z2
  obtain ⟨e1, e2, e3⟩ := chk_cur hP.good hP.size2 hs 1 z2
  have E : chkS s 1 (chkB t 1 1 ls many) = ((chkS s 1 (chkB t 1 1 ls many)).1, 2, 0) := by rw [chk_free hs]; rfl
  generalize (chkS s 1 (chkB t 1 1 ls many)).1 = s3 at *
  rw [E] at hp3
  have hpL : LogP (c + 1) t (s3.limit lim) ls 2 := ⟨hp3.ok, hp3.fit, hp3.good.limit hl.1 hl.2, hp3.ls1, hp3.ls2, hp3.gn1, hp3.gn2, hp3.pend⟩
  have hp4 := chk_p (S := chkB t 2 1 ls 99) hpL z3
  obtain ⟨q0, k, hk, hM⟩ := crashed (lim := lim) (S := chkB t 2 1 ls 99) hp3.good hp3.size2 e1 hl z3 keep torn n hn
  have hz : (chkS (s3.limit lim) 2 (chkB t 2 1 ls 99)).1.size = s3.size := chk_z
  have z4 := hp3.size2
  have pl := hp4.pend
  have f0 : (s3.cur 0) = chkB t 1 1 ls many := e2
  have f1 : s3.cur 1 = S0 := (e3 1 (by decide)).trans h1
  rw [f1] at hM
  have hb := best_two (c1 := ⟨1, 1, 1, 0, [0], [0]⟩) (c2 := ⟨2, 1, ls, many, t.o, t.l⟩) (c3 := ⟨3, 1, ls, 99, t.o, t.l⟩) ⟨by decide, by decide, by decide, by decide, by decide, by decide, by decide, by decide⟩
    (okC_of (t := Tb.newT 4 1 1) (Tb.new_ok rfl) (by decide) (by decide)) ⟨by show (0 : Int) ≤ 2; decide, by show (2 : Int) < 18446744073709551616; decide, by show (0 : Int) ≤ 1; decide, by show (1 : Int) < 4294967296; decide, by simp only; omega, by simp only; omega, by simp only; omega, by simp only; omega⟩
    (okC_of hP.ok (by decide) (by omega)) ⟨by show (0 : Int) ≤ 3; decide, by show (3 : Int) < 18446744073709551616; decide, by show (0 : Int) ≤ 1; decide, by show (1 : Int) < 4294967296; decide, by simp only; omega, by simp only; omega, by show (0 : Int) ≤ 99; decide, by show (99 : Int) < 18446744073709551616; decide⟩
    (okC_of hP.ok (by decide) (by omega)) (by show (1 : Int) ≤ 2; decide) hk (chkB_eq t 1 1 ls many) (chkB_eq t 2 1 ls 99) S0_eq hM
  exact ⟨s3, (chkS (s3.limit lim) 2 (chkB t 2 1 ls 99)).1, (chkS (s3.limit lim) 2 (chkB t 2 1 ls 99)).2.1, (chkS (s3.limit lim) 2 (chkB t 2 1 ls 99)).2.2, ((chkS (s3.limit lim) 2 (chkB t 2 1 ls 99)).1.crash keep torn n).cur 1, E, hp3, hpL, rfl, by rw [hz]; exact z4, Nat.lt_of_le_of_lt pl (by omega), q0.trans f0, rfl, mix_sz hM z3 S0_size, z2, hb.1, hb.2⟩
end Go.Proofs.YtdpmjlbkojhooaaGreat.Lg
