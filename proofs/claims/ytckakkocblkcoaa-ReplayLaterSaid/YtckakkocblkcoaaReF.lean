/- The document's Records and Same, where both are alike; the statements' Lives. -/
import Derived.Test.YtckakkocblkcoaaReE
namespace Go.Proofs.Ytckakkocblkcoaa.Re
open Go.RowKit Go.Lib
open Sp
set_option linter.unusedVariables false
set_option maxRecDepth 100000
set_option maxHeartbeats 8000000 in
theorem records_yes {w : World} {A B : Option Addr} {n m p q : Nat} {L : List Rec} (hA : RR w A n L) (hB : RR w B m L) (hn : n ≤ 1000) :
    Calls Try.prog 10 #[.slice A n p, .slice B m q] w fun e w' => e = .returned (.bool true) ∧ Below w.heap.size w w' := by
  obtain rfl : n = m := hA.len.trans hB.len.symm
  have HA := Lib.hid hA
  have HB := Lib.hid hB
  have qn : ((n : Int) != (n : Int)) = false := by simp
  clear hA hB
  go_enter Try.func10, Try.ntmps10
  go_upto_region 3 with fail
  clear qn
  go_wp2_with fail
  go_loopg [5] n (fun gk s5 wr => ∃ (i : Nat), i ≤ n ∧ gk = n - i ∧ s5 = .int .i64 (i : Nat) ∧ Hid (Below w.heap.size w wr))
  case atStart => exact ⟨0, by omega, rfl, rfl, Lib.hid (Below.refl _ _)⟩
  case round =>
    obtain ⟨i, hi, hgk, rfl, HW⟩ := hrel
    have HGK := Lib.hid hgk
    clear hgk
    by_cases hlt : i < n
    · have hli : (i : Int) < (n : Int) := by omega
      obtain ⟨r, hr⟩ : ∃ r, L[i]? = some r := ⟨_, List.getElem?_eq_getElem (by rw [← HA.out.len]; exact hlt)⟩
      obtain ⟨ga, oa, eA, hca⟩ := HA.out.rc (by omega)
      obtain ⟨gb, ob, eB, hcb⟩ := HB.out.rc (by omega)
      subst eA eB
      have Ra := (hca i r hr).later HW.out
      have Rb := (hcb i r hr).later HW.out
      have x0 := Ra.c0
      have y0 := Rb.c0
      have x1 := Ra.c1
      have y1 := Rb.c1
      have x2 := Ra.c2
      have y2 := Rb.c2
      have x3 := Ra.c3
      have y3 := Rb.c3
      have x4 := Ra.c4
      have y4 := Rb.c4
      have x5 := Ra.c5
      have y5 := Rb.c5
      have x6 := Ra.c6
      have y6 := Rb.c6
      have HBN : Hid (∀ q, Below w.heap.size w (wr.drewN q)) := Lib.hid (fun q => below_drewN HW.out q)
      clear hca hcb Ra Rb hr
      have wi : IntKind.i64.wrap ((i : Int) + 1) = (i : Int) + 1 := IntWalk.i64_in _ (by omega)
      go_upto_region 6 with fail
      go_quiet (fail)
      clear x0 y0 x1 y1 x2 y2 x3 y3 x4 y4 x5 y5 x6 y6
      go_wp2_with fail
      go_roundg (n - (i + 1))
      case measure => have := HGK.out; omega
      case rel => exact ⟨i + 1, by omega, by have := HGK.out; omega, by go_num, Lib.hid (HBN.out _)⟩
    · obtain rfl : i = n := by omega
      go_wp2_with fail
      go_ret
      exact ⟨rfl, HW.out⟩
set_option maxHeartbeats 8000000 in
theorem same_yes {w : World} {A B : Option Addr} {n m p q : Nat} {L : List Ses} (hA : SR w A n L) (hB : SR w B m L) (hn : n ≤ 1000) :
    Calls Try.prog 14 #[.slice A n p, .slice B m q] w fun e w' => e = .returned (.bool true) ∧ Below w.heap.size w w' := by
  obtain rfl : n = m := hA.len.trans hB.len.symm
  have HA := Lib.hid hA
  have HB := Lib.hid hB
  have qn : ((n : Int) != (n : Int)) = false := by simp
  clear hA hB
  go_enter Try.func14, Try.ntmps14
  go_upto_region 3 with fail
  clear qn
  go_wp2_with fail
  go_loopg [5] n (fun gk s5 wr => ∃ (i : Nat), i ≤ n ∧ gk = n - i ∧ s5 = .int .i64 (i : Nat) ∧ Hid (Below w.heap.size w wr))
  case atStart => exact ⟨0, by omega, rfl, rfl, Lib.hid (Below.refl _ _)⟩
  case round =>
    obtain ⟨i, hi, hgk, rfl, HW⟩ := hrel
    have HGK := Lib.hid hgk
    clear hgk
    by_cases hlt : i < n
    · have hli : (i : Int) < (n : Int) := by omega
      obtain ⟨r, hr⟩ : ∃ r, L[i]? = some r := ⟨_, List.getElem?_eq_getElem (by rw [← HA.out.len]; exact hlt)⟩
      obtain ⟨ga, oa, eA, hca⟩ := HA.out.c (by omega)
      obtain ⟨gb, ob, eB, hcb⟩ := HB.out.c (by omega)
      subst eA eB
      have Ra := (hca i r hr).later HW.out
      have Rb := (hcb i r hr).later HW.out
      have x0 := Ra.c0
      have y0 := Rb.c0
      have x1 := Ra.c1
      have y1 := Rb.c1
      have x2 := Ra.c2
      have y2 := Rb.c2
      have HBN : Hid (∀ q, Below w.heap.size w (wr.drewN q)) := Lib.hid (fun q => below_drewN HW.out q)
      clear hca hcb Ra Rb hr
      have wi : IntKind.i64.wrap ((i : Int) + 1) = (i : Int) + 1 := IntWalk.i64_in _ (by omega)
      go_upto_region 6 with fail
      go_quiet (fail)
      clear x0 y0 x1 y1 x2 y2
      go_wp2_with fail
      go_roundg (n - (i + 1))
      case measure => have := HGK.out; omega
      case rel => exact ⟨i + 1, by omega, by have := HGK.out; omega, by go_num, Lib.hid (HBN.out _)⟩
    · obtain rfl : i = n := by omega
      go_wp2_with fail
      go_ret
      exact ⟨rfl, HW.out⟩
/-- An append of one struct in a region that draws its order. -/
theorem rows_pushD {W w : World} {items : List Sp.Item} {k : Nat} {e t : TypeId} {sz bytes : Nat} {z : Value} {v : Value} {n : Nat} {xs cs : List Value} (h : Sp.Sep W w items) (hk : items[k]? = some (rowS e sz v n xs)) (hT : Try.prog.underlying t = some (.slice e)) (hinfo : (Try.prog.info? e).map (fun i => (i.zero, i.size, i.bytes)) = some (some z, sz, bytes)) (hzs : z.cells.size = sz) (hsz : 0 < sz) (hby : bytes ≤ 1000) (hn : n < 1000) (hl : cs.length = sz) (h1c : ∀ u ∈ cs, u.oneCell' = true) :
    ∃ v' W5, (Builtin.append_ #[t, t] t #[v, .slice (some ⟨w.heap.size, 0, none⟩) 1 1]).run Try.prog (w.alloc (.cells cs.toArray e)).drew = .ok v' W5 ∧ Sp.Sep W W5 (items.set k (rowS e sz v' (n + 1) (xs ++ cs))) :=
  rows_pushS h.drew hk hT hinfo hzs hsz hby hn hl h1c
theorem push_step {t : TypeId} {ops : Array Oper} {o : Oper} {a : Act} {w : World} {K : Act → World → Prop} {Q : Exit → Act → World → Prop} {E : Prop} (hgd : o.guard = none) (s x : Operand)
    (ho : o.op = .call { callee := .builtin .append, args := #[s, x], argTypes := #[t, t] }) (hty : o.type = t) (u1 u2 : Value) (hs : a.eval s = u1) (hx : a.eval x = u2) {v' : Value} {W5 : World}
    (hrun : (Builtin.append_ #[t, t] t #[u1, u2]).run Try.prog w = .ok v' W5) (h : K (a.put o.dst v') W5) :
    if Region.wanted o (yielded ops a.tmps) = true then Oper.wp Try.prog o a w K Q else E := by
  have hw : Region.wanted o (yielded ops a.tmps) = true := by simp [Region.wanted, hgd]
  rw [if_pos hw]
  exact wp_app s x ho hty u1 u2 hs hx hrun h
set_option maxHeartbeats 16000000 in
theorem lives_any {w : World} {A : Option Addr} {n p : Nat} {L : List Ses} (h : SR w A n L) (hn : n < 1000) :
    Calls Try.prog 15 #[.slice A n p] w fun e w' => ∃ A' p', e = .returned (.slice A' n p') ∧ SR w' A' n L ∧ Below w.heap.size w w' := by
  have HR := Lib.hid h
  have HN := Lib.hid hn
  have S1 : Sp.Sep w (w.alloc (.cells #[] 61)) [rowS 61 3 (.slice (some ⟨w.heap.size, 0, none⟩) 0 0) 0 []] := rows_lit (Sp.Sep.nil (Below.refl _ _)) 61 3
  clear h hn
  go_enter Try.func15, Try.ntmps15
  go_upto_region 2 with fail
  change Code.wp _ _ _ _ (w.alloc (.cells #[] 61))
  have HI0 := Lib.hid S1
  clear S1
  generalize w.alloc (.cells #[] 61) = w1 at *
  go_wp2_with fail
  go_loopg [3, 4] n (fun gk s3 s4 wr => ∃ (i : Nat) (A' : Option Addr) (p' : Nat), i ≤ n ∧ gk = n - i ∧ s3 = .slice A' i p' ∧ s4 = .int .i64 (i : Nat) ∧ Hid (Sp.Sep w wr [rowS 61 3 (.slice A' i p') i ((L.take i).flatMap seC)]))
  case atStart => exact ⟨0, _, _, by omega, rfl, rfl, rfl, HI0⟩
  case round =>
    obtain ⟨i, A', p', hi, hgk, rfl, rfl, HI⟩ := hrel
    have HGK := Lib.hid hgk
    clear hgk HI0
    by_cases hlt : i < n
    · have hli : (i : Int) < (n : Int) := by omega
      obtain ⟨r, hr⟩ : ∃ r, L[i]? = some r := ⟨_, List.getElem?_eq_getElem (by rw [← HR.out.len]; exact hlt)⟩
      obtain ⟨g, o, rfl, hc⟩ := HR.out.c (by omega)
      have R := (hc i r hr).later HI.out.below
      have x0 := R.c0
      have x1 := R.c1
      have x2 := R.c2
      have wi : IntKind.i64.wrap ((i : Int) + 1) = (i : Int) + 1 := IntWalk.i64_in _ (by have := HN.out; omega)
      have HT := Lib.hid (take_one hr)
      have hm : i < 1000 := by have := HN.out; omega
      clear hc R hr
      obtain ⟨v', W5, hrun, S5⟩ := rows_pushD HI.out (k := 0) rfl Try.underlying31 dses_infos rfl (by decide) (by decide) hm (seC_len r) (se_one r)
      obtain ⟨A9, p9, rfl⟩ := rows_slice S5 (k := 0) rfl
      have H15 := Lib.hid S5
      clear S5
      go_upto_region 5 with fail
      go_region_law (refine push_step rfl (.tmp 12) (.tmp 29) rfl rfl _ _ rfl rfl hrun ?_)
      all_goals
        clear x0 x1 x2 hrun
        have H16 : Hid (Sp.Sep w W5 [rowS 61 3 (.slice A9 (i + 1) p9) (i + 1) ((L.take (i + 1)).flatMap seC)]) := Lib.hid (by
          rw [HT.out, List.flatMap_append]
          simpa using H15.out)
        go_wp2_with fail
        go_roundg (n - (i + 1))
        case measure => have := HGK.out; omega
        case rel => exact ⟨i + 1, A9, p9, by omega, by have := HGK.out; omega, rfl, by go_num, H16⟩
    · obtain rfl : n = i := by omega
      have hti : L.take n = L := by rw [HR.out.len, List.take_length]
      have H1 := HI.out
      rw [hti] at H1
      have HF := Lib.hid (SR.of_row (L := L) H1 (k := 0) rfl HR.out.len)
      have HB := Lib.hid HI.out.below
      clear HI hti H1
      go_wp2_with fail
      go_ret
      first | exact ⟨A', p', rfl, HF.out, HB.out⟩ | exact ⟨A', ⟨p', rfl⟩, HF.out, HB.out⟩
end Go.Proofs.Ytckakkocblkcoaa.Re
