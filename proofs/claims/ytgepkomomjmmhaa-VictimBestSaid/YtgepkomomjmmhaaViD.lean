/- The document's Order; two rows of numbers held against each other. -/
import Derived.Test.YtgepkomomjmmhaaViC
namespace Go.Proofs.Ytgepkomomjmmhaa.Vi
open Go.ChangeShapes Go.WideShapes Go.ChangeAt Go.RowKit Go.Lib Go.Joins Go.Deep
open Sp
set_option linter.unusedVariables false
set_option maxRecDepth 100000

theorem bv_set (B : List Bool) (i : Nat) (b : Bool) : (bv B).set i (.bool b) = bv (B.set i b) := by unfold bv; rw [List.map_set]
theorem inB_set (B : List Bool) (i j : Nat) : inB (B.set i false) j = (inB B j && !decide (j = i)) := by
  unfold inB
  rw [List.getElem?_set]
  by_cases h : i = j
  · subst h
    by_cases h2 : i < B.length <;> simp [h2]
  · rw [if_neg h]
    simp [Ne.symm h]
theorem inB_rep (n j : Nat) (h : j < n) : inB (List.replicate n true) j = true := by
  unfold inB
  rw [List.getElem?_replicate, if_pos h]; rfl
theorem rep_succ (k : Nat) : bv (List.replicate (k + 1) true) = bv (List.replicate k true) ++ [.bool true] := by rw [List.replicate_succ', bv_snoc]
set_option maxHeartbeats 4000000 in
/-- The document's Order. -/
theorem rorder_any (A : Option Addr) (n p : Nat) (L : List Cd) (w : World) (hC : CR w A n L) (hn : n ≤ 900) (hok : ∀ x ∈ L, COk x) :
    Calls Try.prog 18 #[.slice A n p] w fun e w' => ∃ A' p', e = .returned (.slice A' n p') ∧ VR w' A' n (iv (order L)) ∧ Below w.heap.size w w' := by
  have HN := Lib.hid hn
  have HOK := Lib.hid hok
  have HC := Lib.hid hC
  have HL := Lib.hid hC.len
  have h0 : Hid (Sp.Sep w w []) := Lib.hid (Sp.Sep.nil (Below.refl _ _))
  clear hn hok hC
  go_enter Try.func18, Try.ntmps18
  go_upto_region 3 with fail
  have HS := rows_lit h0.out 4 1
  have HT := rows_lit HS 3 1
  generalize ha : w.alloc (.cells #[] 4) = w1 at *
  have hsz : w1.heap.size = w.heap.size + 1 := by rw [← ha]; simp
  rw [hsz] at HT
  generalize w1.alloc (.cells #[] 3) = w2 at *
  obtain ⟨g0, hg0⟩ : ∃ g0, w.heap.size = g0 := ⟨_, rfl⟩
  rw [hg0] at HT ⊢
  have H2 : Hid (Sp.Sep w w2 [rowS 4 1 (.slice (some ⟨g0, 0, none⟩) 0 0) 0 (bv (List.replicate 0 true)), rowS 3 1 (.slice (some ⟨g0 + 1, 0, none⟩) 0 0) 0 []]) := Lib.hid HT
  clear HS HT h0 hsz ha
  go_loopg [3, 5] n (fun gk s3 s5 wr => ∃ (k : Nat) (u3 : Value), k ≤ n ∧ gk = n - k ∧ s3 = u3 ∧ s5 = .int .i64 (k : Nat) ∧ Hid (Sp.Sep w wr [rowS 4 1 u3 k (bv (List.replicate k true)), rowS 3 1 (.slice (some ⟨g0 + 1, 0, none⟩) 0 0) 0 []]))
  case atStart => exact ⟨0, _, by omega, rfl, rfl, rfl, H2⟩
  case round =>
    obtain ⟨k, u3, hk, hgk, rfl, rfl, HS⟩ := hrel
    have HGK := Lib.hid hgk
    clear hgk H2
    by_cases hkn : k < n
    · have hl : (k : Int) < (n : Int) := by omega
      have wk : IntKind.i64.wrap ((k : Int) + 1) = (k : Int) + 1 := IntWalk.i64_in _ (by have := HN.out; omega)
      obtain ⟨v7, w7, hap, S7⟩ := rows_pushS (k := 0) (cs := [.bool true]) HS.out rfl Try.underlying52 bool_infos rfl (by decide) (by decide) (by have := HN.out; omega) rfl (by intro u hu; simp only [List.mem_singleton] at hu; subst hu; rfl)
      have S8 : Sp.Sep w w7 [rowS 4 1 v7 (k + 1) (bv (List.replicate (k + 1) true)), rowS 3 1 (.slice (some ⟨g0 + 1, 0, none⟩) 0 0) 0 []] := by
        rw [rep_succ]
        exact S7
      have H8 := Lib.hid S8
      clear S7 S8
      go_wp2_with (with_reducible refine wpList_append_run (wr.alloc (.cells #[.bool true] 4)) rfl (.tmp 16) (.tmp 17) 52 52 rfl u3 (.slice (some ⟨wr.heap.size, 0, none⟩) 1 1) rfl rfl v7 w7 hap ?_)
      go_roundg (n - (k + 1))
      case measure => have := HGK.out; omega
      case rel => exact ⟨k + 1, v7, by omega, by have := HGK.out; omega, rfl, by go_num, H8⟩
    · obtain rfl : k = n := by omega
      have hl : ¬ (k : Int) < (k : Int) := by omega
      obtain ⟨A5, p5, rfl⟩ := rows_slice HS.out (k := 0) rfl
      clear hkn hk HGK
      go_upto_region 7 with fail
      have H3 : Hid (∃ B : List Bool, B.length = k ∧ (∀ j, j < k → inB B j = (ordS k (cdA L) 0).2 j) ∧ Sp.Sep w wr [rowS 4 1 (.slice A5 k p5) k (bv B), rowS 3 1 (.slice (some ⟨g0 + 1, 0, none⟩) 0 0) 0 (iv ((ordS k (cdA L) 0).1.map Int.ofNat))]) := Lib.hid ⟨_, List.length_replicate, fun j hj => inB_rep k j hj, HS.out⟩
      clear HS
      go_loopg [4, 6] k (fun gk s4 s6 wr => ∃ (q : Nat) (u4 : Value), q ≤ k ∧ gk = k - q ∧ s4 = u4 ∧ s6 = .int .i64 (q : Nat) ∧ Hid (∃ B : List Bool, B.length = k ∧ (∀ j, j < k → inB B j = (ordS k (cdA L) q).2 j) ∧ Sp.Sep w wr [rowS 4 1 (.slice A5 k p5) k (bv B), rowS 3 1 u4 q (iv ((ordS k (cdA L) q).1.map Int.ofNat))]))
      case atStart => exact ⟨0, _, by omega, rfl, rfl, rfl, H3⟩
      case round =>
        obtain ⟨q, u4, hq, hgk, rfl, rfl, HS⟩ := hrel
        have HGK := Lib.hid hgk
        clear hgk H3
        obtain ⟨B, hBl, hBi, hS⟩ := HS.out
        have HBL := Lib.hid hBl
        have HBI := Lib.hid hBi
        have HS2 := Lib.hid hS
        clear HS hBl hBi hS
        by_cases hqk : q < k
        · have hl2 : (q : Int) < (k : Int) := by omega
          have wq : IntKind.i64.wrap ((q : Int) + 1) = (q : Int) + 1 := IntWalk.i64_in _ (by have := HN.out; omega)
          obtain ⟨i, hbi, htop, ho1, ho2⟩ := ord_step (c := cdA L) hqk
          have hik : (i : Int) < (k : Int) := by have := htop.lt; omega
          have HTOP := Lib.hid htop
          have HO1 := Lib.hid ho1
          have HO2 := Lib.hid ho2
          obtain ⟨g, hg, _⟩ := rows_cell HS2.out (k := 0) rfl (by omega)
          subst hg
          have HAM := Lib.hid (among_any A k p L (some ⟨g, 0, none⟩) p5 B wr (HC.out.later HS2.out.below) (VR.of_row HS2.out (k := 0) rfl (by rw [bv_len, HBL.out])) (by have := HN.out; omega) HOK.out (i : Int) (by rw [← hbi]; exact best_same HBI.out (fun _ _ _ _ => rfl)))
          clear htop ho1 ho2 hbi
          have HQ9 : Hid (q < 900) := Lib.hid (by have := HN.out; omega)
          go_upto_region 10 with (go_at_call 25; refine HAM.out.mono ?_; rintro e5 w5 ⟨rfl, hb5⟩; have H5 := Lib.hid (HS2.out.later hb5); clear hb5)
          obtain ⟨v7, w7, hap, S7⟩ := rows_pushS (k := 1) (cs := [.int .i64 (i : Nat)]) H5.out rfl Try.underlying35 int_infos rfl (by decide) (by decide) (by have := HQ9.out; omega) rfl (by intro u hu; simp only [List.mem_singleton] at hu; subst hu; rfl)
          have S8 : Sp.Sep w w7 [rowS 4 1 (.slice (some ⟨g, 0, none⟩) k p5) k (bv B), rowS 3 1 v7 (q + 1) (iv ((ordS k (cdA L) (q + 1)).1.map Int.ofNat))] := by
            rw [HO1.out, List.map_append, List.map_cons, List.map_nil, iv_snoc]
            exact S7
          obtain ⟨g', hg', hcell⟩ := rows_cell S8 (k := 0) rfl (by omega)
          injection hg' with hg'
          injection hg' with hg'
          subst hg'
          obtain ⟨b, hb⟩ : ∃ b, B[i]? = some b := ⟨_, List.getElem?_eq_getElem (by have := HBL.out; omega)⟩
          have ci : w7.cell? ⟨g, i, none⟩ = some (.bool b) := by rw [hcell i (by omega)]; exact bv_at hb
          obtain ⟨cur, hcur⟩ := rows_blk S8 (k := 0) rfl
          have fi := hcur.frozen i
          have S9 := rows_put S8 (k := 0) rfl i (.bool false)
          rw [bv_set] at S9
          have H9 : Hid (∃ B : List Bool, B.length = k ∧ (∀ j, j < k → inB B j = (ordS k (cdA L) (q + 1)).2 j) ∧ Sp.Sep w (w7.setCell ⟨g, i, none⟩ (.bool false)) [rowS 4 1 (.slice (some ⟨g, 0, none⟩) k p5) k (bv B), rowS 3 1 v7 (q + 1) (iv ((ordS k (cdA L) (q + 1)).1.map Int.ofNat))]) :=
            Lib.hid ⟨B.set i false, by rw [List.length_set]; exact HBL.out, fun j hj => by rw [inB_set, HBI.out j hj, HO2.out], S9⟩
          clear S7 S8 S9 hcur hcell hb
          go_wp2_with (with_reducible refine wpList_append_run (w5.alloc (.cells #[.int .i64 (i : Nat)] 3)) rfl (.tmp 28) (.tmp 30) 35 35 rfl u4 (.slice (some ⟨w5.heap.size, 0, none⟩) 1 1) rfl rfl v7 w7 hap ?_)
          go_roundg (k - (q + 1))
          case measure => have := HGK.out; omega
          case rel => exact ⟨q + 1, v7, by omega, by have := HGK.out; omega, rfl, by go_num, H9⟩
        · obtain rfl : q = k := by omega
          have hl2 : ¬ (q : Int) < (q : Int) := by omega
          obtain ⟨A6, p6, rfl⟩ := rows_slice HS2.out (k := 1) rfl
          have HV : Hid (VR wr A6 q (iv (order L))) := Lib.hid (by
            have h1 := VR.of_row HS2.out (k := 1) rfl (by rw [iv_len, List.length_map, (ordS_is q (cdA L) q (Nat.le_refl _)).len])
            have e : order L = (ordS q (cdA L) q).1.map Int.ofNat := by unfold order ord; rw [← HL.out]
            rw [e]
            exact h1)
          go_wp2_with fail
          go_ret
          exact ⟨A6, ⟨p6, rfl⟩, HV.out, hg0 ▸ HS2.out.below⟩

set_option maxHeartbeats 1000000 in
/-- Two rows of numbers. -/
theorem rints_any (A : Option Addr) (m p : Nat) (B : Option Addr) (k q : Nat) (o n : List Int) (w : World) (hA : VR w A m (iv o)) (hB : VR w B k (iv n)) (hm : m ≤ 1000) :
    Calls Try.prog 16 #[.slice A m p, .slice B k q] w fun e w' => e = .returned (.bool (decide (o = n))) ∧ Below w.heap.size w w' := by
  have ho := Lib.hid (show m = o.length by rw [← iv_len]; exact hA.len)
  have hn := Lib.hid (show k = n.length by rw [← iv_len]; exact hB.len)
  by_cases hmk : k = m
  case neg =>
    have h4 : ((m : Int) != (k : Int)) = true := by simp; omega
    have hd : decide (o = n) = false := decide_eq_false (fun e => hmk (by rw [ho.out, hn.out, e]))
    rw [hd]
    go_enter Try.func16, Try.ntmps16
    go_wp2_with fail
    go_ret
    exact ⟨rfl, Below.refl _ _⟩
  case pos =>
  subst hmk
  by_cases hz : k = 0
  · subst hz
    have h1 := List.length_eq_zero_iff.1 ho.out.symm
    have h2 := List.length_eq_zero_iff.1 hn.out.symm
    subst h1 h2
    go_enter Try.func16, Try.ntmps16
    go_wp2_with fail
    refine wp_loop_rounds 1 ?_
    rw [rounds_succ]
    go_wp2_with fail
    go_ret
    exact ⟨rfl, Below.refl _ _⟩
  obtain ⟨ba, oa, rfl, ca⟩ := hA.c (by omega)
  obtain ⟨bb, ob, rfl, cb⟩ := hB.c (by omega)
  have CA := Lib.hid ca
  have CB := Lib.hid cb
  have h4 : ((k : Int) != (k : Int)) = false := by simp
  clear ca cb hA hB
  go_enter Try.func16, Try.ntmps16
  go_wp2_with fail
  go_loopg [5] k (fun gk s5 wr => ∃ i : Nat, i ≤ k ∧ gk = k - i ∧ s5 = .int .i64 i ∧ Hid (Below w.heap.size w wr) ∧ Hid (o.take i = n.take i))
  case atStart => exact ⟨0, by omega, rfl, rfl, Lib.hid (Below.refl _ _), Lib.hid (by simp)⟩
  case round =>
    obtain ⟨i, hi, hgk, rfl, HB, HT⟩ := hrel
    have HG := Lib.hid hgk
    clear hgk
    by_cases hlt : i < k
    · have hlti : (i : Int) < (k : Int) := by omega
      have wi : IntKind.i64.wrap ((i : Int) + 1) = (i : Int) + 1 := IntWalk.i64_in _ (by omega)
      obtain ⟨x, hx⟩ : ∃ x, o[i]? = some x := ⟨_, List.getElem?_eq_getElem (by have := ho.out; omega)⟩
      obtain ⟨y, hy⟩ : ∃ y, n[i]? = some y := ⟨_, List.getElem?_eq_getElem (by have := hn.out; omega)⟩
      have hc1 := CA.out i _ (iv_at hx)
      have hc2 := CB.out i _ (iv_at hy)
      have c1 := (HB.out.cell (World.block_lt_of_cell? _ _ hc1)).trans hc1
      have c2 := (HB.out.cell (World.block_lt_of_cell? _ _ hc2)).trans hc2
      have X := Lib.hid hx
      have Y := Lib.hid hy
      clear hx hy hc1 hc2
      have HB2 := Lib.hid (HB.out.trans ((Below.refl wr.heap.size wr).drew.mono HB.out.size))
      by_cases hxy : x = y
      · subst hxy
        have HT2 : Hid (o.take (i + 1) = n.take (i + 1)) := Lib.hid (by rw [List.take_add_one, List.take_add_one, HT.out, X.out, Y.out])
        go_wp2_with fail
        go_region
        go_wp2_with fail
        go_roundg (k - (i + 1))
        case measure => have := HG.out; omega
        case rel => exact ⟨i + 1, by omega, rfl, by go_num, HB2, HT2⟩
      · have hd : decide (o = n) = false := decide_eq_false (fun e => hxy (by have := X.out; rw [e, Y.out] at this; injection this with this; exact this.symm))
        have HD := Lib.hid hd
        have hne : (x != y) = true := by simp; exact hxy
        clear hd
        go_wp2_with fail
        go_region
        go_wp2_with fail
        go_ret
        exact ⟨ret_bool HD.out.symm, HB2.out⟩
    · obtain rfl : i = k := by omega
      have hlti : ¬ (i : Int) < (i : Int) := by omega
      have hd : decide (o = n) = true := by
        rw [decide_eq_true_iff]
        have := HT.out
        rw [List.take_of_length_le (by have := ho.out; omega), List.take_of_length_le (by have := hn.out; omega)] at this
        exact this
      have HD := Lib.hid hd
      clear hd
      go_wp2_with fail
      go_ret
      exact ⟨ret_bool HD.out.symm, HB.out⟩
end Go.Proofs.Ytgepkomomjmmhaa.Vi
