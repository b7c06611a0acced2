/- The program's Order; all that the laws ask of the program. -/
import Derived.Test.YtgepkomomjmmhaaVjE
namespace Go.Proofs.Ytgepkomomjmmhaa.Vj
open Go.ChangeShapes Go.WideShapes Go.ChangeAt Go.RowKit Go.Lib Go.Joins Go.Deep
open Sp Vi
set_option linter.unusedVariables false
set_option maxRecDepth 100000

set_option maxHeartbeats 4000000 in
theorem stable_p (A : Option Addr) (n p : Nat) (L : List Cd) (lb g q : Nat) (W w : World) (hC : CR W A n L) (hb : W.cell? ⟨lb, 0, none⟩ = some (.slice A n p)) (hin : ∀ x ∈ L, CIn x) (hn : n ≤ 19) (hq : n ≤ q)
    (hS : Sp.Sep W w [itO g n q (List.range n)]) :
    Calls Try.prog 32 #[.slice (some ⟨g, 0, none⟩) n q, .int .i64 (n : Nat), .func (.func 27) #[] #[.pointer (some ⟨lb, 0, none⟩)]] w fun e w' => e = .returned (.tuple #[]) ∧ Sp.Sep W w' [itO g n q (ord n (cdA L))] := by
  have IC := Lib.hid (ins_p A n p L lb g q W w hC hb hin (by omega) hq hS)
  have hd : decide ((20 : Int) ≤ (n : Int)) = false := decide_eq_false (by omega)
  have hl : ¬ (20 : Int) ≤ (n : Int) := by omega
  have hl2 : ¬ (20 : Int) < (n : Int) := by omega
  clear hC hb hin hS
  generalize ord n (cdA L) = Z at *
  clear hn
  go_enter Try.func32, Try.ntmps32
  go_upto_region 2 with fail
  go_loopg [7, 8] 0 (fun gk s7 s8 wr => gk = 0 ∧ s7 = .int .i64 0 ∧ s8 = .int .i64 20 ∧ wr = w)
  case atStart => exact ⟨rfl, rfl, rfl, rfl⟩
  case round =>
    obtain ⟨_, rfl, rfl, rfl⟩ := hrel
    go_upto_region 7 with (go_at_call 36; with_reducible refine IC.out.mono ?_; rintro e1 w1 ⟨rfl, hs1⟩; have H1 := Lib.hid hs1; clear hs1)
    go_loopg [6] 0 (fun gk s6 wr => gk = 0 ∧ s6 = .int .i64 20 ∧ wr = w1)
    case atStart => exact ⟨rfl, rfl, rfl⟩
    case round =>
      obtain ⟨_, rfl, rfl⟩ := hrel
      go_wp2_with fail
      go_end0
      exact ⟨rfl, H1.out⟩
theorem stableF_p (A : Option Addr) (n p : Nat) (L : List Cd) (lb g q : Nat) (W w : World) (hC : CR W A n L) (hb : W.cell? ⟨lb, 0, none⟩ = some (.slice A n p)) (hin : ∀ x ∈ L, CIn x) (hn : n ≤ 19) (hq : n ≤ q)
    (hS : Sp.Sep W w [itO g n q (List.range n)]) :
    Calls Try.prog 26 #[.slice (some ⟨g, 0, none⟩) n q, .func (.func 27) #[] #[.pointer (some ⟨lb, 0, none⟩)]] w fun e w' => e = .returned (.tuple #[]) ∧ Sp.Sep W w' [itO g n q (ord n (cdA L))] := by
  have IC := Lib.hid (stable_p A n p L lb g q W w hC hb hin hn hq hS)
  clear hC hb hin hS hn
  generalize ord n (cdA L) = Z at *
  go_enter Try.func26, Try.ntmps26
  go_wp2_with (go_at_call 32; with_reducible refine IC.out.mono ?_; rintro e1 w1 ⟨rfl, hs1⟩; have H1 := Lib.hid hs1; clear hs1)
  go_end0
  exact ⟨rfl, H1.out⟩

/-- The places from 0 on, as far as k. -/
def fillR (n k : Nat) : List Nat := (List.range k) ++ List.replicate (n - k) 0
theorem fillR_len {n k : Nat} (h : k ≤ n) : (fillR n k).length = n := by unfold fillR; rw [List.length_append, List.length_range, List.length_replicate]; omega
theorem fillR_set {n k : Nat} (h : k < n) : (fillR n k).set k k = fillR n (k + 1) := by
  unfold fillR
  rw [List.set_append_right _ _ (by rw [List.length_range]; exact Nat.le_refl _), List.length_range, Nat.sub_self, show n - k = (n - (k + 1)) + 1 by omega, List.replicate_succ, List.set_cons_zero, List.range_succ, List.append_assoc]
  rfl
theorem fillR_all (n : Nat) : fillR n n = List.range n := by unfold fillR; rw [Nat.sub_self]; simp
theorem imake_run (n : Nat) (hn : n ≤ 20) (w : World) : (Instr.makeSlice 35 (.int .i64 (n : Int)) (.int .i64 (n : Int))).run Try.prog w = .ok (.slice (some ⟨w.heap.size, 0, none⟩) n n) (w.alloc (.cells (madeCells #[.int .i64 0] n) 3)) :=
  run_make_row' 35 3 (.int .i64 0) 8 Try.underlying35 (by kernel_rfl) rfl .i64 .i64 n (by omega) (by omega) w
theorem imake_row {W : World} {n : Nat} (hn : n ≤ 20) : Sp.Sep W (W.alloc (.cells (madeCells #[.int .i64 0] n) 3)) [itO W.heap.size n n (fillR n 0)] := by
  have h1 := World.ownsRow_lit W (base := W.heap.size) (e := 3) (madeCells #[.int .i64 0] n) n (Nat.le_refl _) (Nat.le_trans hn (by decide)) (by rw [size_madeCells, Nat.mul_one])
  have h2 : (madeCells #[Value.int .i64 0] n).toList = pv (fillR n 0) := by
    rw [toList_madeCells_one]
    unfold pv iv fillR
    simp
  rw [h2] at h1
  exact rows_new (Sp.Sep.nil (Below.refl _ _)) h1 (below1 _ _)
set_option maxHeartbeats 4000000 in
theorem order_p (A : Option Addr) (n p : Nat) (L : List Cd) (w : World) (hC : CR w A n L) (hn : n ≤ 19) (hp : n ≤ p) (hin : ∀ x ∈ L, CIn x) :
    Calls Try.prog 17 #[.slice A n p] w fun e w' => ∃ A' p', e = .returned (.slice A' n p') ∧ VR w' A' n (iv (order L)) ∧ Below w.heap.size w w' := by
  obtain ⟨W, hW⟩ : ∃ W, w.alloc (.cells #[.slice A n p] 22) = W := ⟨_, rfl⟩
  have HB := Lib.hid (show Below w.heap.size w W by rw [← hW]; exact below1 _ _)
  have BA : W.cell? ⟨w.heap.size, 0, none⟩ = some (.slice A n p) := by rw [← hW]; exact ((Sp.Blk.new w 22 #[.slice A n p]).cell 0).trans rfl
  have HL := Lib.hid hC.len
  have HC := Lib.hid (hC.later HB.out)
  have HN := Lib.hid hn
  have HIN := Lib.hid hin
  have h0 : Hid (Sp.Sep W W []) := Lib.hid (Sp.Sep.nil (Below.refl _ _))
  obtain ⟨lb, hlb⟩ : ∃ g, w.heap.size = g := ⟨_, rfl⟩
  rw [hlb] at BA
  have hnz : ¬ (n : Int) < 0 := by omega
  have hn0 : (0 : Int) ≤ (n : Int) := by omega
  go_enter Try.func17, Try.ntmps17
  have hmk := imake_run n (by omega) W
  go_upto_region 1 with fail
  have HM : Hid (Sp.Sep W (W.alloc (.cells (madeCells #[.int .i64 0] n) 3)) [itO W.heap.size n n (fillR n 0)]) := Lib.hid (imake_row (by omega))
  clear hW hlb hC hn hin h0
  go_upto_region 3 with fail
  clear hmk
  generalize W.alloc (.cells (madeCells #[.int .i64 0] n) 3) = w1 at *
  obtain ⟨g, hg⟩ : ∃ g, W.heap.size = g := ⟨_, rfl⟩
  rw [hg] at HM ⊢
  clear hg
  go_loopg [10] n (fun gk s10 wr => ∃ k : Nat, k ≤ n ∧ gk = n - k ∧ s10 = .int .i64 (k : Nat) ∧ Hid (Sp.Sep W wr [itO g n n (fillR n k)]))
  case atStart => exact ⟨0, by omega, rfl, rfl, HM⟩
  case round =>
    obtain ⟨k, hk, hgk, rfl, HS⟩ := hrel
    have HGK := Lib.hid hgk
    clear hgk HM
    by_cases hkn : k < n
    · have hl : (k : Int) < (n : Int) := by omega
      have wk : IntKind.i64.wrap ((k : Int) + 1) = (k : Int) + 1 := IntWalk.i64_in _ (by have := HN.out; omega)
      have f1 := itO_frozen HS.out k
      have k1 := itO_cell HS.out (i := k) (a := (fillR n k)[k]'(by rw [fillR_len hk]; exact hkn)) (List.getElem?_eq_getElem _) (fillR_len hk).symm
      have H5 : Hid (Sp.Sep W (wr.setCell ⟨g, k, none⟩ (.int .i64 (k : Nat))) [itO g n n (fillR n (k + 1))]) := Lib.hid (by rw [← fillR_set hkn]; exact itO_put HS.out k k)
      generalize (fillR n k)[k]'(by rw [fillR_len hk]; exact hkn) = z at k1
      go_wp2_with fail
      go_roundg (n - (k + 1))
      case measure => have := HGK.out; omega
      case rel => exact ⟨k + 1, by omega, by have := HGK.out; omega, by go_num, H5⟩
    · obtain rfl : k = n := by omega
      have hl : ¬ (k : Int) < (k : Int) := by omega
      have HF := Lib.hid (fillR_all k)
      rw [HF.out] at HS
      have SC := Lib.hid (stableF_p A k p L lb g k W wr HC.out BA HIN.out HN.out (Nat.le_refl _) HS.out)
      go_wp2_with (go_at_call 26; with_reducible refine SC.out.mono ?_; rintro e1 w5 ⟨rfl, hs5⟩; have H5 := Lib.hid hs5; clear hs5)
      go_ret
      refine ⟨_, _, rfl, ?_, HB.out.trans (H5.out.below.mono HB.out.size)⟩
      have h1 := VR.of_row H5.out (k := 0) rfl (by rw [pv_len, (ord_is _ _).len])
      unfold order
      rw [← HL.out]
      exact h1
/-- What the laws ask of the program. -/
theorem prg : Prg where
  bt a b w ha hb := better_p a b w ha hb
  pk A n p L room w hC hn hp hin hr := pick_p A n p L room w hC hn hp hin
  od A n p L w hC hn hp hin := order_p A n p L w hC hn hp hin
end Go.Proofs.Ytgepkomomjmmhaa.Vj
