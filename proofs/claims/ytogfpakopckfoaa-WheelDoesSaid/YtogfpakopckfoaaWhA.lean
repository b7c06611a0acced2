/- Rows of timers; the document's Place, ahead, Find and Same; the statements' Timers. -/
import Derived.Test.YtogfpakopckfoaaWhM
import Derived.Test.YtogfpakopckfoaaSpA
import Derived.BigQuiet
import Derived.IntWalk
import Derived.Sort.Walk0
import Derived.WalkSmall
import Derived.Deep.LoopGhost
import Derived.Deep.DeepCutAuto
namespace Go.Proofs.Ytogfpakopckfoaa.Wl
open Go.RowKit Go.Lib
open Sp
set_option linter.unusedVariables false
set_option maxRecDepth 100000

def tmC (t : Tm) : List Value := [.string t.i, .int .u64 t.d]
abbrev tmA (t : Tm) : Array Value := #[.string t.i, .int .u64 t.d]
theorem tmC_len (t : Tm) : (tmC t).length = 2 := rfl
theorem tm_one (t : Tm) : ∀ u ∈ tmC t, u.oneCell' = true := by
  intro u hu
  simp only [tmC, List.mem_cons, List.not_mem_nil, or_false] at hu
  rcases hu with rfl | rfl <;> rfl
theorem flat_one (L : List Tm) : ∀ u ∈ L.flatMap tmC, u.oneCell' = true := by
  intro u hu
  obtain ⟨r, _, h⟩ := List.mem_flatMap.1 hu
  exact tm_one r u h
/-- Timers that can be read. -/
structure TR (w : World) (A : Option Addr) (n : Nat) (L : List Tm) : Prop where
  len : n = L.length
  c : 0 < n → ∃ g o, A = some ⟨g, o, none⟩ ∧ ∀ i t, L[i]? = some t → w.cell? ⟨g, o + i * 2, none⟩ = some (.string t.i) ∧ w.cell? ⟨g, o + i * 2 + 1, none⟩ = some (.int .u64 t.d)
theorem TR.later {w w' : World} {A : Option Addr} {n : Nat} {L : List Tm} (h : TR w A n L) (hb : Below w.heap.size w w') : TR w' A n L :=
  ⟨h.len, fun h0 => by
    obtain ⟨g, o, e, hc⟩ := h.c h0
    have k : ∀ (q : Addr) (v : Value), w.cell? q = some v → w'.cell? q = some v := fun q v h => (hb.cell (World.block_lt_of_cell? _ _ h)).trans h
    exact ⟨g, o, e, fun i t hi => ⟨k _ _ (hc i t hi).1, k _ _ (hc i t hi).2⟩⟩⟩
theorem TR.nil (w : World) (A : Option Addr) : TR w A 0 [] := ⟨rfl, fun h => by omega⟩
theorem TR.of_row {W w : World} {items : List Sp.Item} {k : Nat} {T : TypeId} {A : Option Addr} {n p : Nat} {L : List Tm} (h : Sp.Sep W w items) (hk : items[k]? = some (rowS T 2 (.slice A n p) n (L.flatMap tmC))) (hn : n = L.length) : TR w A n L :=
  ⟨hn, fun h0 => by
    obtain ⟨g, e, hc⟩ := rows_cell h hk h0
    refine ⟨g, 0, e, fun i t hi => ?_⟩
    have hlt : i < n := by rw [hn]; exact (List.getElem?_eq_some_iff.1 hi).1
    have a0 := flat_get tmC 2 tmC_len L i t 0 hi (by decide)
    have a1 := flat_get tmC 2 tmC_len L i t 1 hi (by decide)
    rw [Nat.zero_add, hc _ (by omega), hc _ (by omega)]
    exact ⟨a0, a1⟩⟩
/-- The timers from a place on; the first ones. -/
theorem TR.drop {w : World} {g o n : Nat} {L : List Tm} (h : TR w (some ⟨g, o, none⟩) n L) (k : Nat) (hk : k ≤ n) : TR w (some ⟨g, o + k * 2, none⟩) (n - k) (L.drop k) :=
  ⟨by rw [List.length_drop, ← h.len], fun h0 => by
    obtain ⟨g', o', e, hc⟩ := h.c (by omega)
    injection e with e
    injection e with e1 e2 _
    subst e1 e2
    refine ⟨g, o + k * 2, rfl, fun i t hi => ?_⟩
    rw [List.getElem?_drop] at hi
    have := hc _ _ hi
    rw [show o + k * 2 + i * 2 = o + (k + i) * 2 by omega]
    exact this⟩
theorem TR.take {w : World} {A : Option Addr} {n : Nat} {L : List Tm} (h : TR w A n L) (k : Nat) (hk : k ≤ n) : TR w A k (L.take k) :=
  ⟨by rw [List.length_take, ← h.len]; omega, fun h0 => by
    obtain ⟨g, o, e, hc⟩ := h.c (by omega)
    refine ⟨g, o, e, fun i t hi => hc i t ?_⟩
    have hlt := (List.getElem?_eq_some_iff.1 hi).1
    rw [List.length_take] at hlt
    rwa [List.getElem?_take_of_lt (by omega)] at hi⟩
theorem take_one {α : Type} {L : List α} {i : Nat} {r : α} (h : L[i]? = some r) : L.take (i + 1) = L.take i ++ [r] := by rw [List.take_add_one, h]; rfl
theorem below_drewN {B : Nat} {a w : World} (h : Below B a w) (n : Nat) : Below B a (w.drewN n) := ⟨h.os, h.tape, h.output, h.size, h.block⟩
theorem below1 (w : World) (o : Obj) : Below w.heap.size w (w.alloc o) := (Below.refl _ _).alloc (Nat.le_refl _) _
theorem dtm_infos : (Try.prog.info? 57).map (fun i => (i.zero, i.size, i.bytes)) = some (some (.agg #[.string ⟨#[]⟩, .int .u64 0]), 2, 24) := by kernel_rfl
theorem key_eq {a b : Tm} : (a.i.toList == b.i.toList) = decide (a.key = b.key) := by
  show (a.key == b.key) = _
  by_cases h : a.key = b.key <;> simp [h]
theorem key_lt {a b : Tm} : Op.bytesLess a.i.toList b.i.toList = decide (a.key < b.key) := Go.Proofs.bytesLess_eq _ _

/-! ### ahead -/
theorem ahead_any (a b : Tm) (w : World) : Calls Try.prog 37 #[.agg (tmA a), .agg (tmA b)] w fun e w' => e = .returned (.bool (ahd a b)) ∧ Below w.heap.size w w' := by
  have HB := Lib.hid ((below1 w (.cells (tmA a) 57)).trans ((below1 (w.alloc (.cells (tmA a) 57)) (.cells (tmA b) 57)).mono (by simp)))
  unfold ahd
  by_cases h1 : a.d < b.d
  · go_enter Try.func37, Try.ntmps37
    go_wp2_with fail
    go_ret
    exact ⟨by simp [h1], HB.out⟩
  · by_cases h2 : a.d = b.d
    · have hk := @key_lt a b
      obtain ⟨z, hz⟩ : ∃ z, decide (a.key < b.key) = z := ⟨_, rfl⟩
      rw [hz] at hk
      have HZ := Lib.hid hz
      have q2 : ((a.d : Int) == b.d) = true := by simpa using h2
      have q1 : decide ((a.d : Int) < b.d) = false := decide_eq_false h1
      clear hz
      go_enter Try.func37, Try.ntmps37
      go_wp2_with fail
      go_ret
      exact ⟨by rw [HZ.out]; simp, HB.out⟩
    · have q2 : ((a.d : Int) == b.d) = false := by simpa using h2
      go_enter Try.func37, Try.ntmps37
      go_wp2_with fail
      go_ret
      exact ⟨by simp [h1], HB.out⟩

/-! ### Same, Timers -/
theorem same_yes {w : World} {A B : Option Addr} {n m p q : Nat} {L : List Tm} (hA : TR w A n L) (hB : TR w B m L) (hn : n ≤ 1000) :
    Calls Try.prog 19 #[.slice A n p, .slice B m q] w fun e w' => e = .returned (.bool true) ∧ Below w.heap.size w w' := by
  obtain rfl : n = m := hA.len.trans hB.len.symm
  have HA := Lib.hid hA
  have HB := Lib.hid hB
  have qn : ((n : Int) != (n : Int)) = false := by simp
  clear hA hB
  go_enter Try.func19, Try.ntmps19
  go_upto_region 3 with fail
  clear qn
  go_wp2_with fail
  go_loopg [5] n (fun gk s5 wr => ∃ (i : Nat), i ≤ n ∧ gk = n - i ∧ s5 = .int .i64 (i : Nat) ∧ Hid (Below w.heap.size w wr))
  case atStart => exact ⟨0, by omega, rfl, rfl, Lib.hid (Below.refl _ _)⟩
  case round =>
    obtain ⟨i, hi, hgk, rfl, HW⟩ := hrel
    have HGK := Lib.hid hgk
    clear hgk
    by_cases hlt : i < n
    · have hli : (i : Int) < (n : Int) := by omega
      obtain ⟨r, hr⟩ : ∃ r, L[i]? = some r := ⟨_, List.getElem?_eq_getElem (by rw [← HA.out.len]; exact hlt)⟩
      obtain ⟨ga, oa, eA, hca⟩ := (HA.out.later HW.out).c (by omega)
      obtain ⟨gb, ob, eB, hcb⟩ := (HB.out.later HW.out).c (by omega)
      subst eA eB
      have x0 := (hca i r hr).1
      have y0 := (hcb i r hr).1
      have x1 := (hca i r hr).2
      have y1 := (hcb i r hr).2
      have HBN : Hid (∀ q, Below w.heap.size w (wr.drewN q)) := Lib.hid (fun q => below_drewN HW.out q)
      clear hca hcb hr
      have wi : IntKind.i64.wrap ((i : Int) + 1) = (i : Int) + 1 := IntWalk.i64_in _ (by omega)
      go_upto_region 6 with fail
      go_quiet (fail)
      clear x0 y0 x1 y1
      go_wp2_with fail
      go_roundg (n - (i + 1))
      case measure => have := HGK.out; omega
      case rel => exact ⟨i + 1, by omega, by have := HGK.out; omega, by go_num, Lib.hid (HBN.out _)⟩
    · obtain rfl : i = n := by omega
      go_wp2_with fail
      go_ret
      exact ⟨rfl, HW.out⟩
theorem rows_pushD {W w : World} {items : List Sp.Item} {k : Nat} {e t : TypeId} {sz bytes : Nat} {z : Value} {v : Value} {n : Nat} {xs cs : List Value} (h : Sp.Sep W w items) (hk : items[k]? = some (rowS e sz v n xs)) (hT : Try.prog.underlying t = some (.slice e)) (hinfo : (Try.prog.info? e).map (fun i => (i.zero, i.size, i.bytes)) = some (some z, sz, bytes)) (hzs : z.cells.size = sz) (hsz : 0 < sz) (hby : bytes ≤ 1000) (hn : n < 1000) (hl : cs.length = sz) (h1c : ∀ u ∈ cs, u.oneCell' = true) :
    ∃ v' W5, (Builtin.append_ #[t, t] t #[v, .slice (some ⟨w.heap.size, 0, none⟩) 1 1]).run Try.prog (w.alloc (.cells cs.toArray e)).drew = .ok v' W5 ∧ Sp.Sep W W5 (items.set k (rowS e sz v' (n + 1) (xs ++ cs))) :=
  rows_pushS h.drew hk hT hinfo hzs hsz hby hn hl h1c
theorem push_step {t : TypeId} {ops : Array Oper} {o : Oper} {a : Act} {w : World} {K : Act → World → Prop} {Q : Exit → Act → World → Prop} {E : Prop} (hgd : o.guard = none) (s x : Operand)
    (ho : o.op = .call { callee := .builtin .append, args := #[s, x], argTypes := #[t, t] }) (hty : o.type = t) (u1 u2 : Value) (hs : a.eval s = u1) (hx : a.eval x = u2) {v' : Value} {W5 : World}
    (hrun : (Builtin.append_ #[t, t] t #[u1, u2]).run Try.prog w = .ok v' W5) (h : K (a.put o.dst v') W5) :
    if Region.wanted o (yielded ops a.tmps) = true then Oper.wp Try.prog o a w K Q else E := by
  have hw : Region.wanted o (yielded ops a.tmps) = true := by simp [Region.wanted, hgd]
  rw [if_pos hw]
  exact wp_app s x ho hty u1 u2 hs hx hrun h
theorem row_fresh {W w : World} {items : List Sp.Item} {k : Nat} {T : TypeId} {sz : Nat} {A : Option Addr} {n p : Nat} {xs : List Value} (h : Sp.Sep W w items) (hk : items[k]? = some (rowS T sz (.slice A n p) n xs)) : ∀ a, A = some a → W.heap.size ≤ a.block := by
  obtain ⟨G, ⟨hrow, hG⟩, hW, _, _⟩ := h.at_ k hk
  intro a e
  subst e
  rcases hrow.2 with ⟨e, _⟩ | ⟨g, cap, cur, e, _⟩
  · cases e
  · injection e with e1 e2 e3
    injection e1 with e1
    subst e1
    exact hW g ((hG g).2 (by simp [Value.ownBlock]))
set_option maxHeartbeats 16000000 in
theorem timers_new {w : World} {A : Option Addr} {n p : Nat} {L : List Tm} (h : TR w A n L) (hn : n < 1000) :
    Calls Try.prog 16 #[.slice A n p] w fun e w' => ∃ A' p', e = .returned (.slice A' n p') ∧ TR w' A' n L ∧ Below w.heap.size w w' ∧ ∀ a, A' = some a → w.heap.size ≤ a.block := by
  have HR := Lib.hid h
  have HN := Lib.hid hn
  have S1 : Sp.Sep w (w.alloc (.cells #[] 57)) [rowS 57 2 (.slice (some ⟨w.heap.size, 0, none⟩) 0 0) 0 []] := rows_lit (Sp.Sep.nil (Below.refl _ _)) 57 2
  clear h hn
  go_enter Try.func16, Try.ntmps16
  go_upto_region 2 with fail
  change Code.wp _ _ _ _ (w.alloc (.cells #[] 57))
  have HI0 := Lib.hid S1
  clear S1
  generalize w.alloc (.cells #[] 57) = w1 at *
  go_wp2_with fail
  go_loopg [3, 4] n (fun gk s3 s4 wr => ∃ (i : Nat) (A' : Option Addr) (p' : Nat), i ≤ n ∧ gk = n - i ∧ s3 = .slice A' i p' ∧ s4 = .int .i64 (i : Nat) ∧ Hid (Sp.Sep w wr [rowS 57 2 (.slice A' i p') i ((L.take i).flatMap tmC)]))
  case atStart => exact ⟨0, _, _, by omega, rfl, rfl, rfl, HI0⟩
  case round =>
    obtain ⟨i, A', p', hi, hgk, rfl, rfl, HI⟩ := hrel
    have HGK := Lib.hid hgk
    clear hgk HI0
    by_cases hlt : i < n
    · have hli : (i : Int) < (n : Int) := by omega
      obtain ⟨r, hr⟩ : ∃ r, L[i]? = some r := ⟨_, List.getElem?_eq_getElem (by rw [← HR.out.len]; exact hlt)⟩
      obtain ⟨g, o, rfl, hc⟩ := (HR.out.later HI.out.below).c (by omega)
      have x0 := (hc i r hr).1
      have x1 := (hc i r hr).2
      have wi : IntKind.i64.wrap ((i : Int) + 1) = (i : Int) + 1 := IntWalk.i64_in _ (by have := HN.out; omega)
      have HT := Lib.hid (take_one hr)
      have hm : i < 1000 := by have := HN.out; omega
      clear hc hr
      obtain ⟨v', W5, hrun, S5⟩ := rows_pushD HI.out (k := 0) rfl Try.underlying27 dtm_infos rfl (by decide) (by decide) hm (tmC_len r) (tm_one r)
      obtain ⟨A9, p9, rfl⟩ := rows_slice S5 (k := 0) rfl
      have H15 := Lib.hid S5
      clear S5
      go_upto_region 5 with fail
      go_region_law (refine push_step rfl (.tmp 12) (.tmp 24) rfl rfl _ _ rfl rfl hrun ?_)
      all_goals
        clear x0 x1 hrun
        have H16 : Hid (Sp.Sep w W5 [rowS 57 2 (.slice A9 (i + 1) p9) (i + 1) ((L.take (i + 1)).flatMap tmC)]) := Lib.hid (by
          rw [HT.out, List.flatMap_append]
          simpa using H15.out)
        go_wp2_with fail
        go_roundg (n - (i + 1))
        case measure => have := HGK.out; omega
        case rel => exact ⟨i + 1, A9, p9, by omega, by have := HGK.out; omega, rfl, by go_num, H16⟩
    · obtain rfl : n = i := by omega
      have hti : L.take n = L := by rw [HR.out.len, List.take_length]
      have H1 := HI.out
      rw [hti] at H1
      have HF := Lib.hid (TR.of_row (L := L) H1 (k := 0) rfl HR.out.len)
      have HFR := Lib.hid (row_fresh H1 (k := 0) rfl)
      have HB := Lib.hid HI.out.below
      clear HI hti H1
      go_wp2_with fail
      go_ret
      first | exact ⟨A', p', rfl, HF.out, HB.out, HFR.out⟩ | exact ⟨A', ⟨p', rfl⟩, HF.out, HB.out, HFR.out⟩
theorem timers_any {w : World} {A : Option Addr} {n p : Nat} {L : List Tm} (h : TR w A n L) (hn : n < 1000) :
    Calls Try.prog 16 #[.slice A n p] w fun e w' => ∃ A' p', e = .returned (.slice A' n p') ∧ TR w' A' n L ∧ Below w.heap.size w w' :=
  (timers_new h hn).mono fun e w' ⟨A', p', he, hr, hb, _⟩ => ⟨A', p', he, hr, hb⟩

/-! ### Place -/
theorem pl_step (a b n : Nat) (h : a / 16 ^ n % 16 = b / 16 ^ n % 16) : plR a b (n + 1) = plR a b n := by
  rw [plR, if_neg (by simpa using h)]
theorem pl_step' (a b n : Nat) (h : a / 16 ^ n % 16 ≠ b / 16 ^ n % 16) : plR a b (n + 1) = (n, b / 16 ^ n % 16) := by
  rw [plR, if_pos h]
set_option maxHeartbeats 8000000 in
theorem rplace_any (a b : Nat) (w : World) (ha : a < 18446744073709551616) (hb : b < 18446744073709551616) :
    Calls Try.prog 14 #[.int .u64 (a : Int), .int .u64 (b : Int)] w fun e w' => e = .returned (.tuple #[.int .i64 ((place a b).1 : Nat), .int .i64 ((place a b).2 : Nat)]) ∧ w' = w := by
  obtain ⟨q, hq⟩ : ∃ q, place a b = q := ⟨_, rfl⟩
  rw [hq]
  by_cases h0 : b ≤ a
  · have q0 : ((b : Int) ≤ (a : Int)) := by omega
    have r1 : ((a : Int) % 16) = ((a % 16 : Nat) : Int) := by omega
    have r2 : (a : Int).tmod 16 = ((a % 16 : Nat) : Int) := by rw [Int.tmod_eq_emod_of_nonneg (by omega)]; exact r1
    have r3 : IntKind.i64.wrap ((a % 16 : Nat) : Int) = ((a % 16 : Nat) : Int) := IntWalk.i64_in _ (by omega)
    obtain ⟨z, hz⟩ : ∃ z, a % 16 = z := ⟨_, rfl⟩
    rw [hz] at r1 r2 r3
    have HQ : Hid (q = (0, z)) := Lib.hid (by rw [← hq, ← hz]; unfold place; rw [if_pos h0])
    clear hz h0 hq
    go_enter Try.func14, Try.ntmps14
    go_wp2_with fail
    refine bodyPost_ret (results_tmp2 rfl _ _ _) rfl ?_
    exact ⟨by rw [HQ.out]; rfl, rfl⟩
  · have q0 : ¬ ((b : Int) ≤ (a : Int)) := by omega
    have HQ : Hid (q = if 3 < (plR a b 16).1 then (4, 0) else plR a b 16) := Lib.hid (by rw [← hq]; unfold place; rw [if_neg h0])
    clear hq
    have HA := Lib.hid ha
    have HB := Lib.hid hb
    clear h0 ha hb
    go_enter Try.func14, Try.ntmps14
    go_upto_region 5 with fail
    clear q0
    go_loopg [6, 7, 8, 9, 10] 16 (fun gk s6 s7 s8 s9 s10 wr => ∃ (i lv sl x y : Nat), i ≤ 16 ∧ gk = 16 - i ∧ Hid (plR a b i = (lv, sl)) ∧ Hid (a / 16 ^ i = x) ∧ Hid (b / 16 ^ i = y) ∧ s6 = .int .i64 (lv : Nat) ∧ s7 = .int .i64 (sl : Nat) ∧ s8 = .int .u64 (x : Nat) ∧ s9 = .int .u64 (y : Nat) ∧ s10 = .int .i64 (i : Nat) ∧ wr = w)
    case atStart => exact ⟨0, 0, 0, a, b, by omega, rfl, Lib.hid rfl, Lib.hid (by simp), Lib.hid (by simp), rfl, rfl, rfl, rfl, rfl, rfl⟩
    case round =>
      obtain ⟨i, lv, sl, x, y, hi, hgk, HP, HX, HY, rfl, rfl, rfl, rfl, rfl, rfl⟩ := hrel
      have HGK := Lib.hid hgk
      clear hgk
      by_cases hlt : i < 16
      · have hli : (i : Int) < 16 := by omega
        have wi : IntKind.i64.wrap ((i : Int) + 1) = (i : Int) + 1 := IntWalk.i64_in _ (by omega)
        have r1 : ((x : Int) % 16) = ((x % 16 : Nat) : Int) := by omega
        have r2 : (x : Int).tmod 16 = ((x % 16 : Nat) : Int) := by rw [Int.tmod_eq_emod_of_nonneg (by omega)]; exact r1
        have r4 : ((y : Int) % 16) = ((y % 16 : Nat) : Int) := by omega
        have r5 : (y : Int).tmod 16 = ((y % 16 : Nat) : Int) := by rw [Int.tmod_eq_emod_of_nonneg (by omega)]; exact r4
        have r6 : IntKind.i64.wrap ((y % 16 : Nat) : Int) = ((y % 16 : Nat) : Int) := IntWalk.i64_in _ (by omega)
        have d1 : ((x : Int) / 16) = ((x / 16 : Nat) : Int) := by omega
        have d2 : (x : Int).tdiv 16 = ((x / 16 : Nat) : Int) := by rw [Int.tdiv_eq_ediv_of_nonneg (by omega)]; exact d1
        have d4 : ((y : Int) / 16) = ((y / 16 : Nat) : Int) := by omega
        have d5 : (y : Int).tdiv 16 = ((y / 16 : Nat) : Int) := by rw [Int.tdiv_eq_ediv_of_nonneg (by omega)]; exact d4
        have HX2 : Hid (a / 16 ^ (i + 1) = x / 16) := Lib.hid (by rw [← HX.out, Nat.pow_succ, Nat.div_div_eq_div_mul])
        have HY2 : Hid (b / 16 ^ (i + 1) = y / 16) := Lib.hid (by rw [← HY.out, Nat.pow_succ, Nat.div_div_eq_div_mul])
        have u1 : IntKind.u64.wrap ((x / 16 : Nat) : Int) = ((x / 16 : Nat) : Int) := IntWalk.u64_in _ (by
          have h1 : a / 16 ^ i ≤ a := Nat.div_le_self _ _
          have := HX.out
          have := HA.out
          omega)
        have u2 : IntKind.u64.wrap ((y / 16 : Nat) : Int) = ((y / 16 : Nat) : Int) := IntWalk.u64_in _ (by
          have h1 : b / 16 ^ i ≤ b := Nat.div_le_self _ _
          have := HY.out
          have := HB.out
          omega)
        obtain ⟨xr, exr⟩ : ∃ z, x % 16 = z := ⟨_, rfl⟩
        obtain ⟨yr, eyr⟩ : ∃ z, y % 16 = z := ⟨_, rfl⟩
        obtain ⟨xq, exq⟩ : ∃ z, x / 16 = z := ⟨_, rfl⟩
        obtain ⟨yq, eyq⟩ : ∃ z, y / 16 = z := ⟨_, rfl⟩
        rw [exr] at r1 r2
        rw [eyr] at r4 r5 r6
        rw [exq] at d1 d2 HX2 u1
        rw [eyq] at d4 d5 HY2 u2
        have HXR := Lib.hid exr
        have HYR := Lib.hid eyr
        clear exr eyr exq eyq
        by_cases hv : xr = yr
        · have q1 : ((xr : Int) != (yr : Int)) = false := by rw [hv]; simp
          have HP2 : Hid (plR a b (i + 1) = (lv, sl)) := Lib.hid (by rw [pl_step a b i (by rw [HX.out, HY.out, HXR.out, HYR.out, hv]), HP.out])
          clear hv
          go_wp2_with fail
          go_roundg (16 - (i + 1))
          case measure => have := HGK.out; omega
          case rel => exact ⟨i + 1, lv, sl, xq, yq, by omega, by have := HGK.out; omega, HP2, HX2, HY2, rfl, rfl, rfl, rfl, by go_num, rfl⟩
        · have q1 : ((xr : Int) != (yr : Int)) = true := bne_iff_ne.2 (fun h => hv (by omega))
          have HP2 : Hid (plR a b (i + 1) = (i, yr)) := Lib.hid (by rw [pl_step' a b i (by rw [HX.out, HY.out, HXR.out, HYR.out]; exact hv), HY.out, HYR.out])
          clear hv
          go_wp2_with fail
          go_roundg (16 - (i + 1))
          case measure => have := HGK.out; omega
          case rel => exact ⟨i + 1, i, yr, xq, yq, by omega, by have := HGK.out; omega, HP2, HX2, HY2, rfl, rfl, rfl, rfl, by go_num, rfl⟩
      · obtain rfl : i = 16 := by omega
        by_cases h3 : 3 < lv
        · have h4 : ¬ ((lv : Int) ≤ 3) := by omega
          have HR3 : Hid (q = (4, 0)) := Lib.hid (by rw [HQ.out, HP.out]; exact if_pos h3)
          have h5 : decide (3 < (lv : Int)) = true := decide_eq_true (by omega)
          clear h3 HQ
          go_wp2_with fail
          refine bodyPost_ret (results_tmp2 rfl _ _ _) rfl ?_
          exact ⟨by rw [HR3.out]; rfl, rfl⟩
        · have h4 : ((lv : Int) ≤ 3) := by omega
          have HR3 : Hid (q = (lv, sl)) := Lib.hid (by rw [HQ.out, HP.out]; exact if_neg h3)
          have h5 : decide (3 < (lv : Int)) = false := decide_eq_false (by omega)
          clear h3 HQ
          go_wp2_with fail
          refine bodyPost_ret (results_tmp2 rfl _ _ _) rfl ?_
          exact ⟨by rw [HR3.out]; rfl, rfl⟩
end Go.Proofs.Ytogfpakopckfoaa.Wl
