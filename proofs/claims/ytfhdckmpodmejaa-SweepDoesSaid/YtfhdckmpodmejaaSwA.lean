/- The document's in, Right, Next, Need and Left. -/
import Derived.Test.YtfhdckmpodmejaaSwM
import Derived.Test.YtfhdckmpodmejaaRw
import Derived.Test.YtfhdckmpodmejaaClass
namespace Go.Proofs.Ytfhdckmpodmejaa.Sw
open Go.ChangeShapes Go.WideShapes Go.ChangeAt Go.RowKit Go.Lib Go.Joins Go.Deep
open Sp Rw
set_option linter.unusedVariables false
set_option maxRecDepth 100000

/-- A state's cells, its list lying at A. -/
abbrev sc (s : St) (A : Option Addr) (p : Nat) : Array Value := #[.slice A s.t.length p, .int .i64 s.v, .int .i64 s.c, .int .i64 s.n]
set_option maxHeartbeats 1000000 in
theorem rin_any (A : Option Addr) (n p : Nat) (l : List Int) (x : Int) (w : World) (h : VR w A n (iv l)) (hn : n ≤ 1000) :
    Calls Try.prog 35 #[.slice A n p, .int .i64 x] w fun e w' => e = .returned (.bool (decide (x ∈ l))) ∧ Below w.heap.size w w' := by
  have HN := Lib.hid hn
  have HV := Lib.hid h
  have HL : Hid (n = l.length) := Lib.hid (by rw [← iv_len]; exact h.len)
  clear hn h
  go_enter Try.func35, Try.ntmps35
  go_upto_region 2 with fail
  go_loopg [5] n (fun gk s5 wr => ∃ i : Nat, i ≤ n ∧ gk = n - i ∧ s5 = .int .i64 (i : Nat) ∧ Hid (Below w.heap.size w wr) ∧ Hid (¬ x ∈ l.take i))
  case atStart => exact ⟨0, by omega, rfl, rfl, Lib.hid (Below.refl _ _), Lib.hid (by simp)⟩
  case round =>
    obtain ⟨i, hi, hgk, rfl, HB, HT⟩ := hrel
    have HG := Lib.hid hgk
    clear hgk
    by_cases hlt : i < n
    · have hl1 : (i : Int) < (n : Int) := by omega
      have wi : IntKind.i64.wrap ((i : Int) + 1) = (i : Int) + 1 := IntWalk.i64_in _ (by have := HN.out; omega)
      obtain ⟨g, o, rfl, hc⟩ := (HV.out.later HB.out).c (by omega)
      obtain ⟨y, hy⟩ : ∃ y, l[i]? = some y := ⟨_, List.getElem?_eq_getElem (by have := HL.out; omega)⟩
      have c1 := hc i _ (iv_at hy)
      have HY := Lib.hid hy
      clear hy hc
      by_cases hxy : y = x
      · subst hxy
        have hd : decide (y ∈ l) = true := decide_eq_true (List.mem_of_getElem? HY.out)
        have HD := Lib.hid hd
        have he : (y == y) = true := by simp
        clear hd
        go_wp2_with fail
        go_ret
        exact ⟨ret_bool HD.out.symm, HB.out⟩
      · have he : (y == x) = false := by simp; exact hxy
        have HT2 : Hid (¬ x ∈ l.take (i + 1)) := Lib.hid (by
          rw [take_one HY.out, List.mem_append]
          rintro (h | h)
          · exact HT.out h
          · exact hxy (List.mem_singleton.1 h).symm)
        go_wp2_with fail
        go_roundg (n - (i + 1))
        case measure => have := HG.out; omega
        case rel => exact ⟨i + 1, by omega, by have := HG.out; omega, by go_num, HB, HT2⟩
    · obtain rfl : i = n := by omega
      have hl1 : ¬ (i : Int) < (i : Int) := by omega
      have hd : decide (x ∈ l) = false := decide_eq_false (by have := HT.out; rwa [List.take_of_length_le (by have := HL.out; omega)] at this)
      have HD := Lib.hid hd
      clear hd
      go_wp2_with fail
      go_ret
      exact ⟨ret_bool HD.out.symm, HB.out⟩
set_option maxHeartbeats 1000000 in
theorem rnext_any (s : St) (A : Option Addr) (p : Nat) (g : Bool) (w : World) :
    Calls Try.prog 17 #[.agg (sc s A p), .bool g] w fun e w' => e = .returned (.int .i64 (next s g)) ∧ Below w.heap.size w w' := by
  obtain ⟨W, hW⟩ : ∃ W, w.alloc (.cells (sc s A p) 27) = W := ⟨_, rfl⟩
  have HB := Lib.hid (show Below w.heap.size w W by rw [← hW]; exact below1 _ _)
  have BS : Hid (Sp.Blk W w.heap.size 27 (sc s A p)) := Lib.hid (by rw [← hW]; exact Sp.Blk.new _ _ _)
  have s0 : W.cell? ⟨w.heap.size, 0, none⟩ = some (.slice A s.t.length p) := (BS.out).cell 0
  have s1 : W.cell? ⟨w.heap.size, 1, none⟩ = some (.int .i64 s.v) := (BS.out).cell 1
  have s2 : W.cell? ⟨w.heap.size, 2, none⟩ = some (.int .i64 s.c) := (BS.out).cell 2
  have s3 : W.cell? ⟨w.heap.size, 3, none⟩ = some (.int .i64 s.n) := (BS.out).cell 3
  have HBS := HB
  obtain ⟨t, v, c, n⟩ := s
  simp only at s0 s1 s2 s3
  unfold next
  simp only
  clear BS
  by_cases h1 : 0 ≤ v
  · have d1 : decide ((0 : Int) ≤ v) = true := decide_eq_true h1
    by_cases h2 : c < n
    · have d2 : decide (c < n) = true := decide_eq_true h2
      rw [if_pos ⟨h1, h2⟩]
      go_enter Try.func17, Try.ntmps17
      go_wp2_with fail
      go_ret
      exact ⟨rfl, HB.out⟩
    · have d2 : decide (c < n) = false := decide_eq_false h2
      rw [if_neg (fun h => h2 h.2), if_pos h1]
      go_enter Try.func17, Try.ntmps17
      go_wp2_with fail
      go_ret
      exact ⟨rfl, HB.out⟩
  · have d1 : decide ((0 : Int) ≤ v) = false := decide_eq_false h1
    rw [if_neg (fun h => h1 h.1), if_neg h1]
    by_cases h3 : t = []
    · subst h3
      have d3 : decide (0 < ([] : List Int).length) = false := by decide
      simp only [List.length_nil] at s0
      rw [if_neg (by simp)]
      cases g with
      | true =>
        rw [if_pos rfl]
        go_enter Try.func17, Try.ntmps17
        go_wp2_with fail
        go_ret
        exact ⟨rfl, HB.out⟩
      | false =>
        rw [if_neg (by simp)]
        go_enter Try.func17, Try.ntmps17
        go_wp2_with fail
        go_ret
        exact ⟨rfl, HB.out⟩
    · rw [if_pos h3]
      have h4 : 0 < t.length := List.length_pos_iff.2 h3
      have d4 : decide (0 < t.length) = true := decide_eq_true h4
      have d5 : decide ((0 : Int) < (t.length : Int)) = true := decide_eq_true (by omega)
      go_enter Try.func17, Try.ntmps17
      go_wp2_with fail
      go_ret
      exact ⟨rfl, HB.out⟩
set_option maxHeartbeats 1000000 in
theorem rneed_any (s : St) (A : Option Addr) (p : Nat) (k : Int) (w : World) (HR : Right s) :
    Calls Try.prog 13 #[.agg (sc s A p), .int .i64 k] w fun e w' => e = .returned (.int .i64 (need s k)) ∧ Below w.heap.size w w' := by
  obtain ⟨W, hW⟩ : ∃ W, w.alloc (.cells (sc s A p) 27) = W := ⟨_, rfl⟩
  have HB := Lib.hid (show Below w.heap.size w W by rw [← hW]; exact below1 _ _)
  have BS : Hid (Sp.Blk W w.heap.size 27 (sc s A p)) := Lib.hid (by rw [← hW]; exact Sp.Blk.new _ _ _)
  have s0 : W.cell? ⟨w.heap.size, 0, none⟩ = some (.slice A s.t.length p) := (BS.out).cell 0
  have s1 : W.cell? ⟨w.heap.size, 1, none⟩ = some (.int .i64 s.v) := (BS.out).cell 1
  have s2 : W.cell? ⟨w.heap.size, 2, none⟩ = some (.int .i64 s.c) := (BS.out).cell 2
  have s3 : W.cell? ⟨w.heap.size, 3, none⟩ = some (.int .i64 s.n) := (BS.out).cell 3
  unfold need
  obtain ⟨t, v, c, n⟩ := s
  simp only at s0 s1 s2 s3 HR
  simp only
  clear BS
  by_cases h1 : 0 ≤ v
  · have d1 : decide ((0 : Int) ≤ v) = true := decide_eq_true h1
    have wv : IntKind.i64.wrap (n - c) = n - c := IntWalk.i64_in _ (by have := HR.v; unfold VicOk at this; simp only at this; omega)
    rw [if_pos h1]
    go_enter Try.func13, Try.ntmps13
    go_wp2_with fail
    go_ret
    exact ⟨rfl, HB.out⟩
  · have d1 : decide ((0 : Int) ≤ v) = false := decide_eq_false h1
    rw [if_neg h1]
    go_enter Try.func13, Try.ntmps13
    go_wp2_with fail
    go_ret
    exact ⟨rfl, HB.out⟩
set_option maxHeartbeats 1000000 in
theorem rleft_any (s : St) (A : Option Addr) (p : Nat) (k : Int) (w : World) (HR : Right s) (hk : 0 ≤ k ∧ k ≤ 30) :
    Calls Try.prog 15 #[.agg (sc s A p), .int .i64 k] w fun e w' => e = .returned (.int .i64 (left s k)) ∧ Below w.heap.size w w' := by
  obtain ⟨W, hW⟩ : ∃ W, w.alloc (.cells (sc s A p) 27) = W := ⟨_, rfl⟩
  have HB := Lib.hid (show Below w.heap.size w W by rw [← hW]; exact below1 _ _)
  have BS : Hid (Sp.Blk W w.heap.size 27 (sc s A p)) := Lib.hid (by rw [← hW]; exact Sp.Blk.new _ _ _)
  have s0 : W.cell? ⟨w.heap.size, 0, none⟩ = some (.slice A s.t.length p) := (BS.out).cell 0
  have s1 : W.cell? ⟨w.heap.size, 1, none⟩ = some (.int .i64 s.v) := (BS.out).cell 1
  have s2 : W.cell? ⟨w.heap.size, 2, none⟩ = some (.int .i64 s.c) := (BS.out).cell 2
  have s3 : W.cell? ⟨w.heap.size, 3, none⟩ = some (.int .i64 s.n) := (BS.out).cell 3
  unfold left
  have hlen := right_len HR
  obtain ⟨t, v, c, n⟩ := s
  simp only at s0 s1 s2 s3 HR hlen
  simp only
  clear BS
  have hv := HR.v
  unfold VicOk at hv
  simp only at hv
  have m1 : 0 ≤ (t.length : Int) * (k + 2) := Int.mul_nonneg (by omega) (by omega)
  have m2 : (t.length : Int) * (k + 2) ≤ 16 * (k + 2) := Int.mul_le_mul_of_nonneg_right (by omega) (by omega)
  have w1 : IntKind.i64.wrap (k + 2) = k + 2 := IntWalk.i64_in _ (by omega)
  have w2 : IntKind.i64.wrap ((t.length : Int) * (k + 2)) = (t.length : Int) * (k + 2) := IntWalk.i64_in _ (by omega)
  generalize hm : (t.length : Int) * (k + 2) = m at *
  by_cases h1 : 0 ≤ v
  · have d1 : decide ((0 : Int) ≤ v) = true := decide_eq_true h1
    have w3 : IntKind.i64.wrap (m + n) = m + n := IntWalk.i64_in _ (by omega)
    have w4 : IntKind.i64.wrap (m + n - c) = m + n - c := IntWalk.i64_in _ (by omega)
    have w5 : IntKind.i64.wrap (m + n - c + 1) = m + n - c + 1 := IntWalk.i64_in _ (by omega)
    rw [if_pos h1, show m + (n - c + 1) = m + n - c + 1 by omega]
    clear hv m1 m2 hlen HR
    go_enter Try.func15, Try.ntmps15
    go_wp2_with fail
    go_ret
    exact ⟨rfl, HB.out⟩
  · have d1 : decide ((0 : Int) ≤ v) = false := decide_eq_false h1
    rw [if_neg h1, Int.add_zero]
    clear hv m1 m2 hlen HR
    go_enter Try.func15, Try.ntmps15
    go_wp2_with fail
    go_ret
    exact ⟨rfl, HB.out⟩
end Go.Proofs.Ytfhdckmpodmejaa.Sw
