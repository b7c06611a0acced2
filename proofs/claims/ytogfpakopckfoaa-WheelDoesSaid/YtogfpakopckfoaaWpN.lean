/- The program's leaveNear. -/
import Derived.Test.YtogfpakopckfoaaWpM
import Derived.StillTailTactics
namespace Go.Proofs.Ytogfpakopckfoaa.Wl
open Go.RowKit Go.Lib Go.Maps
open Sp
set_option linter.unusedVariables false
set_option maxRecDepth 100000

/-- The digits of the two times at the highest one in which they are unlike. -/
theorem dig_le {t n : Nat} (h : t ≤ n) (hn : n < 18446744073709551616) (hM : (place t n).1 < 4) : t / 16 ^ (place t n).1 % 16 ≤ (place t n).2 := by
  rcases Nat.lt_or_eq_of_le h with h1 | rfl
  · obtain ⟨M, hT⟩ := Top.is h1 hn
    have hp := hT.place
    by_cases hb : 3 < M
    · rw [if_pos hb] at hp
      rw [hp] at hM
      simp at hM
    · rw [if_neg hb] at hp
      rw [hp]
      have a1 := hT.at_
      have a2 := hT.up
      rw [dps, dps] at a2
      simp only
      omega
  · have : place t t = (0, t % 16) := by unfold place; rw [if_pos (Nat.le_refl t)]
    rw [this]
    simp
/-- A call of a Go function by its contract, at a step of a region that draws its order. -/
theorem step_call {f : FuncId} {ops : Array Oper} {o : Oper} {a : Act} {w : World} {K : Act → World → Prop} {Q : Exit → Act → World → Prop} {E : Prop} (hgd : o.guard = none) (xs : Array Operand) (ts : Array TypeId)
    (ho : o.op = .call { callee := .value (.func f), args := xs, argTypes := ts }) (vs : Array Value) (hv : xs.map a.eval = vs) (he : ∀ args w, (callFunc f args).run Try.prog w = .ok (.enter f args) w)
    (hc : Calls Try.prog f vs w fun e w' => ∃ v, e = .returned v ∧ K (a.put o.dst v) w') : if Region.wanted o (yielded ops a.tmps) = true then Oper.wp Try.prog o a w K Q else E := by
  have hw : Region.wanted o (yielded ops a.tmps) = true := by simp [Region.wanted, hgd]
  rw [if_pos hw]
  unfold Oper.wp
  simp only [execOp, ho, resolve, invoke, Sem.run_bind, hv, Act.eval]
  simp [Deferred.ofValue, he, Result.andThen, Oper.upon]
  refine hc.mono ?_
  rintro e w' ⟨v, rfl, hk⟩
  exact hk
section
variable {W w w' : World} {items I : List Sp.Item} {k g t ma mf : Nat} {v s : Value} {l m : List En} {L A : List En} {p : En → Bool} {e : En}
theorem sep_drop {x : Sp.Item} (h : Sp.Sep W w (items ++ [x])) : Sp.Sep W w items := by
  refine sep_pick h (List.range items.length) List.nodup_range ?_
  apply List.ext_getElem?
  intro i
  rw [List.getElem?_map, List.getElem?_map]
  by_cases hi : i < items.length
  · rw [List.getElem?_range hi]
    simp [List.getElem?_append_left hi, List.getElem?_eq_getElem hi]
  · rw [List.getElem?_eq_none (l := items) (by omega), List.getElem?_eq_none (by simp; omega)]
    rfl
/-- 'x = append(x, s...)', both rows of one's own. -/
theorem app_rows (h : Sp.Sep W w (I ++ [rowP v l] ++ [rowP s m])) (hn : l.length + m.length ≤ 20000) (ty : TypeId) :
    ∃ v' w', (Builtin.append_ #[62, 62] ty #[v, s]).run Try.prog w = .ok v' w' ∧ Sp.Sep W w' (I ++ [rowP v' (l ++ m)]) := by
  have e1 : (I ++ [rowP v l] ++ [rowP s m])[I.length]? = some (rowP v l) := by
    rw [List.getElem?_append_left (by simp), List.getElem?_append_right (Nat.le_refl _)]
    simp
  have e2 : (I ++ [rowP v l] ++ [rowP s m])[I.length + 1]? = some (rowP s m) := by
    rw [List.getElem?_append_right (by simp)]
    simp
  obtain ⟨G, ⟨hrow, hG⟩, _, _, put⟩ := h.at_ _ e1
  obtain ⟨v', w', hrun, own', _, hg, hat⟩ := push_row hrow (rows_own h e2) (Nat.zero_le _) hn (ptr_one _) ty
  have h2 := put w' (fun b => v'.ownBlock = some b) (rowP v' (l ++ m)) ⟨by rw [List.length_append, List.map_append]; exact own', fun b => Iff.rfl⟩ (fun b hb => by
    rcases hat with e | e
    · left; exact (hG b).2 (e ▸ hb)
    · right; rw [e] at hb; injection hb with hb; omega) ((Only.refl _ _).grown hg (fun q hq => .inl ((hG q).2 hq)))
  have e3 : (I ++ [rowP v l] ++ [rowP s m]).set I.length (rowP v' (l ++ m)) = I ++ [rowP v' (l ++ m)] ++ [rowP s m] := by
    rw [List.set_append_left _ _ (by simp), List.set_append_right _ _ (Nat.le_refl _)]
    simp
  rw [e3] at h2
  exact ⟨v', w', hrun, sep_drop h2⟩
theorem wI_congr (h : Sp.Sep W w items) (hk : items[k]? = some (wI g t L A p)) {p' : En → Bool} (hp : ∀ x ∈ A, p' x = p x) : Sp.Sep W w (items.set k (wI g t L A p')) :=
  wI_turn h hk (fun _ _ _ _ hm => hm.congr hp) (fun a ha => ha)
theorem get_front {x : Sp.Item} {J : List Sp.Item} (h : items[k]? = some x) : (items ++ J)[k]? = some x := by
  rw [List.getElem?_append_left (List.getElem?_eq_some_iff.1 h).1]
  exact h
theorem set_front {x y : Sp.Item} {J : List Sp.Item} (h : items[k]? = some x) : (items ++ J).set k y = items.set k y ++ J := List.set_append_left _ _ (List.getElem?_eq_some_iff.1 h).1
set_option maxHeartbeats 8000000 in
theorem near_any (h : Sp.Sep W w items) (hk : items[k]? = some (wI g t L A p)) (hA : AOk A) {n : Nat} (hn : n < 18446744073709551616) (ht : t ≤ n) :
    Calls Try.prog 32 #[.pointer (some ⟨g, 0, none⟩), .int .u64 (n : Int)] w fun e w' => ∃ v l, e = .returned v ∧ l.Perm (A.filter (fun x => p x && em t n (ix t x.n))) ∧ Sp.Sep W w' (items.set k (wI g t L A (fun x => p x && !(em t n (ix t x.n)))) ++ [rowP v l]) := by
  obtain ⟨ma, mf, v, sl, hM, _⟩ := wI_take h hk
  have x0 : w.cell? ⟨g, 0, none⟩ = some (.int .u64 (t : Int)) := (hM.blk.cell 0).trans (wh0 _ _ _ _)
  obtain ⟨M, hMM⟩ : ∃ M, (place t n).1 = M := ⟨_, rfl⟩
  obtain ⟨S, hSS⟩ : ∃ S, (place t n).2 = S := ⟨_, rfl⟩
  have hpl := fun W' => place_any t n W' (by omega) hn
  rw [hMM, hSS] at hpl
  have HPL := Lib.hid hpl
  have hM4 : M ≤ 4 := by rw [← hMM]; exact (place_lt t n).1
  have hS16 : S < 16 := by rw [← hSS]; exact (place_lt t n).2
  have HD : Hid (M < 4 → t / 16 ^ M % 16 ≤ S) := Lib.hid (by have := dig_le ht hn; rw [hMM, hSS] at this; exact this)
  have HE : Hid (∀ q, em t n q = (decide (q < 16 * M) || (decide (M < 4) && decide (16 * M + t / 16 ^ M % 16 ≤ q) && decide (q ≤ 16 * M + S)))) := Lib.hid (fun q => by unfold em ix; rw [hMM, hSS])
  have HT := Lib.hid (show t < 18446744073709551616 by omega)
  have HK := Lib.hid hk
  have HA := Lib.hid hA
  have HS0 : Hid (Sp.Sep W w (items.set k (wI g t L A (fun x => p x && !(inR t 0 (16 * 0) x))) ++ [rowP (.slice none 0 0) []])) := Lib.hid (rows_nil (wI_congr h hk fun x _ => by simp [inR]) _ _)
  have HL0 : Hid (([] : List En).Perm (A.filter (fun x => p x && inR t 0 (16 * 0) x))) := Lib.hid (by
    have hnil : A.filter (fun x => p x && inR t 0 (16 * 0) x) = [] := List.filter_eq_nil_iff.2 fun a _ ha => by
      simp only [inR, Bool.and_eq_true, decide_eq_true_iff] at ha
      omega
    rw [hnil])
  clear h hk hA hM hpl hMM hSS ht hn
  go_enter Try.func32, Try.ntmps32
  go_upto_region 4 with (go_at_call 13; refine (HPL.out _).mono ?_; rintro e3 w3 ⟨rfl, rfl⟩)
  go_loopg [7, 19] M (fun gk s7 s19 wr => ∃ (i : Nat) (l : List En), i ≤ M ∧ gk = M - i ∧ s19 = .int .i64 (i : Nat) ∧ Hid (l.Perm (A.filter (fun x => p x && inR t 0 (16 * i) x))) ∧ Hid (Sp.Sep W wr (items.set k (wI g t L A (fun x => p x && !(inR t 0 (16 * i) x))) ++ [rowP s7 l])))
  case atStart => exact ⟨0, [], by omega, rfl, rfl, HL0, HS0⟩
  case round =>
    obtain ⟨i, l, hi, hgk, rfl, HL, HS⟩ := hrel
    have HGK := Lib.hid hgk
    clear hgk HL0 HS0 x0
    have hk1 := get_front (J := [rowP u7 l]) (set_at HK.out (wI g t L A (fun x => p x && !(inR t 0 (16 * i) x))))
    by_cases hlt : i < M
    · have hli : (i : Int) < (M : Int) := by omega
      have hi4 : (i : Int) < 4 := by omega
      have wi : IntKind.i64.wrap ((i : Int) + 1) = (i : Int) + 1 := IntWalk.i64_in _ (by omega)
      have HEM := Lib.hid (empty_any HS.out hk1 HA.out (q := i * 16) (c := 16) (cp := 16) (by omega) (by decide))
      rw [set_front (set_at HK.out _), List.set_set] at HEM
      clear hk1 HS
      have HB1 : Hid (l.length ≤ 200) := Lib.hid (by rw [HL.out.length_eq]; exact Nat.le_trans (List.length_filter_le _ _) HA.out.n)
      go_upto_region 7 with (first | (go_at_call 38; refine HEM.out.mono ?_; rintro e3 w3 ⟨v3, l3, rfl, h3, hs3⟩; have hl3 : l3.length ≤ 200 := (by rw [h3.length_eq]; exact Nat.le_trans (List.length_filter_le _ _) HA.out.n); obtain ⟨v4, w4, hrun, h4⟩ := app_rows hs3 (by have := HB1.out; omega) 62; have H3 := Lib.hid h3; have H4 := Lib.hid h4; clear h3 hs3 h4 hl3) | (refine wpList_append_run _ rfl (.tmp 22) (.tmp 29) 62 62 rfl _ _ rfl rfl _ _ hrun ?_; clear hrun))
      have HL5 : Hid ((l ++ l3).Perm (A.filter (fun x => p x && inR t 0 (16 * (i + 1)) x))) := Lib.hid ((HL.out.append H3.out).trans (two_perm (fun e _ => by
        simp only [inR, Bool.and_eq_true, Bool.not_eq_true', decide_eq_true_iff, decide_eq_false_iff_not]
        constructor
        · rintro ⟨h1, h2, h3⟩
          by_cases h4 : ix t e.n < 16 * i
          · exact .inl ⟨h1, by omega, by omega⟩
          · exact .inr ⟨⟨h1, by omega⟩, by omega, by omega⟩
        · rintro (⟨h1, h2, h3⟩ | ⟨⟨h1, h2⟩, h3, h4⟩)
          · exact ⟨h1, by omega, by omega⟩
          · exact ⟨h1, by omega, by omega⟩) (fun e _ he => by
        simp only [inR, Bool.and_eq_true, decide_eq_true_iff] at he
        simp only [inR, Bool.and_eq_false_iff, Bool.not_eq_false', decide_eq_true_iff]
        exact .inl (.inr ⟨by omega, by omega⟩))))
      have HS5 : Hid (Sp.Sep W w4 (items.set k (wI g t L A (fun x => p x && !(inR t 0 (16 * (i + 1)) x))) ++ [rowP v4 (l ++ l3)])) := Lib.hid (by
        have h5 := wI_congr H4.out (get_front (set_at HK.out _)) (p' := fun x => p x && !(inR t 0 (16 * (i + 1)) x)) (fun x _ => by
          rw [Bool.eq_iff_iff]
          simp only [inR, Bool.and_eq_true, Bool.not_eq_true', decide_eq_false_iff_not]
          constructor
          · rintro ⟨h1, h2⟩
            exact ⟨⟨h1, by omega⟩, by omega⟩
          · rintro ⟨⟨h1, h2⟩, h3⟩
            exact ⟨h1, by omega⟩)
        rw [set_front (set_at HK.out _), List.set_set] at h5
        exact h5)
      clear HL H3 H4 HEM HB1
      go_wp2_with fail
      go_roundg (M - (i + 1))
      case measure => have := HGK.out; omega
      case rel => exact ⟨i + 1, l ++ l3, by omega, by have := HGK.out; omega, by go_num, HL5, HS5⟩
    · obtain rfl : i = M := by omega
      by_cases h4 : i = 4
      · subst h4
        have HL5 : Hid (l.Perm (A.filter (fun x => p x && em t n (ix t x.n)))) := Lib.hid (by
          have : A.filter (fun x => p x && em t n (ix t x.n)) = A.filter (fun x => p x && inR t 0 (16 * 4) x) := List.filter_congr fun x _ => by rw [HE.out]; simp [inR]
          rw [this]
          exact HL.out)
        have HS5 : Hid (Sp.Sep W wr (items.set k (wI g t L A (fun x => p x && !(em t n (ix t x.n)))) ++ [rowP u7 l])) := Lib.hid (by
          have h5 := wI_congr HS.out hk1 (p' := fun x => p x && !(em t n (ix t x.n))) (fun x _ => by rw [HE.out]; simp [inR])
          rw [set_front (set_at HK.out _), List.set_set] at h5
          exact h5)
        clear HL HS hk1
        go_wp2_with fail
        go_ret
        exact ⟨_, _, rfl, HL5.out, HS5.out⟩
      · have hi4 : (i : Int) < 4 := by omega
        have hlt4 : i < 4 := by omega
        obtain ⟨d, hd⟩ : ∃ d, t / 16 ^ i % 16 = d := ⟨_, rfl⟩
        have hdS : d ≤ S := by rw [← hd]; exact HD.out hlt4
        have HDG := Lib.hid (fun W' => digit_any t i W' HT.out hlt4)
        rw [hd] at HDG
        have HE2 := HE
        clear HE
        rw [hd] at HE2
        have HEM := fun X (hX : Sp.Sep W X (items.set k (wI g t L A (fun x => p x && !(inR t 0 (16 * i) x))) ++ [rowP u7 l])) => empty_any hX hk1 HA.out (q := i * 16 + d) (c := S + 1 - d) (cp := 16 - d) (by omega) (by omega)
        rw [set_front (set_at HK.out _), List.set_set] at HEM
        obtain ⟨ma1, mf1, v1, sl1, hM1, _⟩ := wI_take HS.out hk1
        have x0 : wr.cell? ⟨g, 0, none⟩ = some (.int .u64 (t : Int)) := (hM1.blk.cell 0).trans (wh0 _ _ _ _)
        clear hM1
        go_wp2_with fail
        have wS : IntKind.i64.wrap ((S : Int) + 1) = (S : Int) + 1 := IntWalk.i64_in _ (by omega)
        have b1 : (d : Int) ≤ (S : Int) + 1 := by omega
        have b2 : (S : Int) + 1 ≤ 16 := by omega
        have x1 : wr.drew.cell? ⟨g, 0, none⟩ = some (.int .u64 (t : Int)) := x0
        have HEM2 := Lib.hid (HEM wr.drew HS.out.drew)
        rw [show 2 + (i * 16 + d) = 2 + i * 16 + d by omega] at HEM2
        have hd16 : ¬ (16 = d) := by omega
        have HB1 : Hid (l.length ≤ 200) := Lib.hid (by rw [HL.out.length_eq]; exact Nat.le_trans (List.length_filter_le _ _) HA.out.n)
        clear HEM hk1
        go_region_law (first
          | (refine step_call rfl _ _ rfl #[.int .u64 (t : Int), .int .i64 (i : Int)] (by simp [Act.eval]) (enters_of Try.func29 (by kernel_rfl) rfl) ?_; refine (HDG.out _).mono ?_; rintro e3 w3 ⟨rfl, rfl⟩; refine ⟨_, rfl, ?_⟩)
          | (refine step_call rfl _ _ rfl #[.slice (some ⟨g, 2 + i * 16 + d, none⟩) (S + 1 - d) (16 - d)] (by simp [Act.eval, Act.put]) (enters_of Try.func38 (by kernel_rfl) rfl) ?_; refine HEM2.out.mono ?_; rintro e3 w3 ⟨v3, l3, rfl, h3, hs3⟩; have hl3 : l3.length ≤ 200 := (by rw [h3.length_eq]; exact Nat.le_trans (List.length_filter_le _ _) HA.out.n); obtain ⟨v4, w4, hrun, h4⟩ := app_rows hs3 (by have := HB1.out; omega) 62; have H3 := Lib.hid h3; have H4 := Lib.hid h4; clear h3 hs3 h4 hl3; refine ⟨_, rfl, ?_⟩)
          | (refine step_push rfl (.tmp 34) (.tmp 49) rfl rfl u7 v3 (by simp [Act.eval]) (by simp [Act.eval]) hrun ?_))
        all_goals (
          have HL5 : Hid ((l ++ l3).Perm (A.filter (fun x => p x && em t n (ix t x.n)))) := Lib.hid ((HL.out.append H3.out).trans (two_perm (fun e _ => by
            rw [HE2.out]
            simp only [inR, hlt4, decide_true, Bool.true_and, Bool.and_eq_true, Bool.or_eq_true, Bool.not_eq_true', decide_eq_true_iff, decide_eq_false_iff_not]
            constructor
            · rintro ⟨h1, h2⟩
              by_cases h4 : ix t e.n < 16 * i
              · exact .inl ⟨h1, by omega, by omega⟩
              · exact .inr ⟨⟨h1, by omega⟩, by omega, by omega⟩
            · rintro (⟨h1, h2, h3⟩ | ⟨⟨h1, h2⟩, h3, h4⟩)
              · exact ⟨h1, by omega⟩
              · exact ⟨h1, by omega⟩) (fun e _ he => by
            simp only [inR, Bool.and_eq_true, decide_eq_true_iff] at he
            simp only [inR, Bool.and_eq_false_iff, Bool.not_eq_false', decide_eq_true_iff]
            exact .inl (.inr ⟨by omega, by omega⟩))))
          have HS5 : Hid (Sp.Sep W w4 (items.set k (wI g t L A (fun x => p x && !(em t n (ix t x.n)))) ++ [rowP v4 (l ++ l3)])) := Lib.hid (by
            have h5 := wI_congr H4.out (get_front (set_at HK.out _)) (p' := fun x => p x && !(em t n (ix t x.n))) (fun x _ => by
              rw [HE2.out, Bool.eq_iff_iff]
              simp only [inR, hlt4, decide_true, Bool.true_and, Bool.and_eq_true, Bool.or_eq_false_iff, Bool.and_eq_false_iff, Bool.not_eq_true', decide_eq_false_iff_not]
              constructor
              · rintro ⟨h1, h2, h3⟩
                exact ⟨⟨h1, by omega⟩, by omega⟩
              · rintro ⟨⟨h1, h2⟩, h3⟩
                exact ⟨h1, by omega, by omega⟩)
            rw [set_front (set_at HK.out _), List.set_set] at h5
            exact h5)
          clear HL HS H3 H4 HEM2
          go_wp2_with fail
          go_ret
          exact ⟨_, _, rfl, HL5.out, HS5.out⟩)
end
end Go.Proofs.Ytogfpakopckfoaa.Wl
