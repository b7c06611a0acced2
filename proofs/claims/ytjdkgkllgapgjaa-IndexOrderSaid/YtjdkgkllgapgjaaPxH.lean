/- The program's vacant and stand. -/
import Derived.Test.YtjdkgkllgapgjaaPxG
namespace Go.Proofs.Ytjdkgkllgapgjaa.Px
open Go.RowKit Go.Lib Go.Maps
open Re (Rec Key new_cells rcA isL below_drewN)
open Ix
open Sp
set_option linter.unusedVariables false
set_option linter.unusedSimpArgs false
set_option maxRecDepth 100000

section
variable {W w w' : World} {items : List Sp.Item} {k : Nat} {t : St}
set_option maxHeartbeats 4000000 in
theorem vacant_any (h : Sp.Sep W w items) (hk : items[k]? = some (mI t)) {s p : Int} (hs : I64 s) (hp : I64 p) (hs0 : 0 ≤ s) (hp0 : 0 ≤ p) :
    Calls Try.prog 24 #[.pointer (some ⟨t.g, 0, none⟩), .agg #[.int .i64 s, .int .i64 p]] w fun e w' => e = .returned (.bool (t.fp (locK s p)).isNone) ∧ Below w.heap.size w w' := by
  have h0 := loc_alloc h 32 #[.int .i64 s, .int .i64 p]
  have hk0 := app_at (b := locI [(w.heap.size, 32, #[.int .i64 s, .int .i64 p])]) hk
  have hl0 : (items ++ [locI [(w.heap.size, 32, #[.int .i64 s, .int .i64 p])]])[items.length]? = some (locI [(w.heap.size, 32, #[.int .i64 s, .int .i64 p])]) := app_last
  obtain ⟨bv, hbv⟩ : ∃ bv, (t.fp (locK s p)).isSome = bv := ⟨_, rfl⟩
  have hno : (t.fp (locK s p)).isNone = !bv := by rw [← hbv]; cases t.fp (locK s p) <;> rfl
  rw [hno]
  have q0 := ix0 h0 hk0
  have q1 := (loc_blk h0 hl0).cell 0
  have q2 := (loc_blk h0 hl0).cell 1
  have hlk := fun n => (p_look (w := (w.alloc (.cells #[.int .i64 s, .int .i64 p] 32)).drewN n) (h0.later (below_drewN (Below.refl _ _) n)) hk0 hs hp).1
  have hB : Below w.heap.size w (w.alloc (.cells #[.int .i64 s, .int .i64 p] 32)) := (Below.refl _ _).alloc (Nat.le_refl _) _
  have HB := Lib.hid hB
  rw [hbv] at hlk
  generalize strO (t.fp (locK s p)) = sv at *
  clear h hk hs hp hbv h0 hk0 hl0 hB hno
  go_enter Try.func24, Try.ntmps24
  go_upto_region 1 with fail
  go_quiet (fail)
  have HB2 := Lib.hid (below_drewN HB.out nq)
  have q1' : ((w.alloc (.cells #[.int .i64 s, .int .i64 p] 32)).drewN nq).cell? ⟨w.heap.size, 0, none⟩ = some (.int .i64 s) := q1
  have q2' : ((w.alloc (.cells #[.int .i64 s, .int .i64 p] 32)).drewN nq).cell? ⟨w.heap.size, 1, none⟩ = some (.int .i64 p) := q2
  generalize (w.alloc (.cells #[.int .i64 s, .int .i64 p] 32)).drewN nq = w2 at *
  cases bv
  · go_wp2_with fail
    go_ret
    exact ⟨rfl, HB2.out⟩
  · go_wp2_with fail
    go_ret
    exact ⟨rfl, HB2.out⟩
/-- A record stands: at its place, counted among those of its id; its segment is new. -/
noncomputable def stdA (t : St) (i : ByteArray) (s p : Int) : St := (t.fpS (locK s p) (some (.string i))).fcS i.toList (some ((t.fc i.toList).getD 0 + 1))
noncomputable def stdB (t : St) (i : ByteArray) (s p : Int) (e : Sg) (v : Value) : St := (t.pushS s e p v).scS s i.toList ((t.sc s i.toList).getD 0 + 1)
set_option maxHeartbeats 8000000 in
theorem stand_any (h : Sp.Sep W w items) (hk : items[k]? = some (mI t)) {i : ByteArray} (hi : i.size ≤ maxLen) {s p : Int} (hs : I64 s) (hp : I64 p)
    {LP : List Lit} (hLP : ∀ k, t.fp k ≠ none → k ∈ LP) (hnP : LP.length ≤ 100000) {LC : List Key} (hLC : ∀ k, t.fc k ≠ none → k ∈ LC) (hnC : LC.length ≤ 100000) {LS : List Int} (hLS : ∀ k, t.q k ≠ none → k ∈ LS) (hnS : LS.length ≤ 100000)
    {LM : List Key} (hLM : (t.q s).isSome = true → ∀ k, t.sc s k ≠ none → k ∈ LM) (hnM : LM.length ≤ 100000) (hsl : (t.q s).isSome = true → (t.sl s).length ≤ 100000) (hc1 : Sm ((t.fc i.toList).getD 0)) (hc2 : (t.q s).isSome = true → Sm ((t.sc s i.toList).getD 0)) :
    Calls Try.prog 25 #[.pointer (some ⟨t.g, 0, none⟩), .string i, .agg #[.int .i64 s, .int .i64 p]] w fun x w' => x = .returned (.tuple #[]) ∧
      ∃ v, (∀ e, t.q s = some e → Sp.Sep W w' (items.set k (mI (stdB (stdA t i s p) i s p e v)))) ∧
        (t.q s = none → ∃ n, Sp.Sep W w' (items.set k (mI (stdB ((stdA t i s p).newS s n) i s p ⟨n + 1, .slice none 0 0, n⟩ v)))) := by
  have h0 := loc_alloc h 32 #[.int .i64 s, .int .i64 p]
  have hk0 := app_at (b := locI [(w.heap.size, 32, #[.int .i64 s, .int .i64 p])]) hk
  have hl0 : (items ++ [locI [(w.heap.size, 32, #[.int .i64 s, .int .i64 p])]])[items.length]? = some (locI [(w.heap.size, 32, #[.int .i64 s, .int .i64 p])]) := app_last
  have HK := Lib.hid hk
  obtain ⟨nb, hnb⟩ : ∃ nb, w.heap.size = nb := ⟨_, rfl⟩
  rw [hnb] at hk0 hl0 h0
  obtain ⟨J, hJ⟩ : ∃ J, items ++ [locI [(nb, 32, #[.int .i64 s, .int .i64 p])]] = J := ⟨_, rfl⟩
  rw [hJ] at hk0 hl0 h0
  have HJ := Lib.hid hJ
  have HK0 := Lib.hid hk0
  have HL0 := Lib.hid hl0
  have HI := Lib.hid hi
  have HS := Lib.hid hs
  have HP := Lib.hid hp
  have HLP := Lib.hid (And.intro hLP hnP)
  have HLC := Lib.hid (And.intro hLC hnC)
  have HLS := Lib.hid (And.intro hLS hnS)
  have HLM := Lib.hid (And.intro hLM hnM)
  have HSL := Lib.hid hsl
  clear h hk hi hs hp hLP hnP hLC hnC hLS hnS hLM hnM hsl hJ hk0 hl0
  go_enter Try.func25, Try.ntmps25
  go_upto_region 1 with fail
  generalize w.alloc (.cells #[.int .i64 s, .int .i64 p] 32) = w1 at *
  clear hnb
  obtain ⟨w2, hrun, h2⟩ := fp_put h0.drew HK0.out HS.out HP.out i HLP.out.1 HLP.out.2
  change (Instr.mapUpdate 53 (.map (some t.mp)) (.agg #[.int .i64 s, .int .i64 p]) (.string i)).run Try.prog w1.drew = .ok () w2 at hrun
  have x0 := ix0 h0 HK0.out
  have x0' : w1.drew.cell? ⟨t.g, 0, none⟩ = some (.map (some t.mp)) := x0
  have y0 : w1.cell? ⟨nb, 0, none⟩ = some (.int .i64 s) := (loc_blk h0 HL0.out).cell 0
  have y1 : w1.cell? ⟨nb, 1, none⟩ = some (.int .i64 p) := (loc_blk h0 HL0.out).cell 1
  have y0' : w1.drew.cell? ⟨nb, 0, none⟩ = some (.int .i64 s) := y0
  have y1' : w1.drew.cell? ⟨nb, 1, none⟩ = some (.int .i64 p) := y1
  have hk2 := set_at HK0.out (mI (t.fpS (locK s p) (some (.string i))))
  have x2 : w2.cell? ⟨t.g, 2, none⟩ = some (.map (some t.mc)) := by have q := ix2 h2 hk2; exact q
  have lk2 : (Instr.lookup 55 (.map (some t.mc)) (.string i) false).run Try.prog w2 = .ok (.int .i64 ((t.fc i.toList).getD 0)) w2 := by have q := c_look h2 hk2 HI.out; exact q
  obtain ⟨w3, hrun3, h3⟩ := fc_put h2 hk2 HI.out ((t.fc i.toList).getD 0 + 1) HLC.out.1 HLC.out.2
  change (Instr.mapUpdate 55 (.map (some t.mc)) (.string i) (.int .i64 ((t.fc i.toList).getD 0 + 1))).run Try.prog w2 = .ok () w3 at hrun3
  have wi2 : IntKind.i64.wrap ((t.fc i.toList).getD 0 + 1) = (t.fc i.toList).getD 0 + 1 := IntWalk.i64_in _ (by omega)
  rw [List.set_set] at h3
  have H3 := Lib.hid h3
  clear hk2 h2 h3 h0
  go_region
  all_goals (try go_upto_region 3 with fail)
  clear x0 x0' y0 y1 y0' y1' x2 lk2 hrun hrun3 wi2
  have x1 := ix1 H3.out (set_at HK0.out _)
  change w3.cell? ⟨t.g, 1, none⟩ = some (.map (some t.ms)) at x1
  have hlq := fun n => (q_look (w := w3.drewN n) (H3.out.later (below_drewN (Below.refl _ _) n)) (set_at HK0.out _) HS.out).1
  have hl3 := set_far HL0.out (lt_of_at HK.out) (mI (stdA t i s p))
  have y0 : w3.cell? ⟨nb, 0, none⟩ = some (.int .i64 s) := (loc_blk H3.out hl3).cell 0
  have HC2 := Lib.hid hc2
  clear hl3 hc1 hc2
  cases hq : t.q s with
  | some e0 =>
    obtain ⟨eb, ev, em⟩ := e0
    have hlq2 : ∀ n : Nat, (Instr.lookup 54 (.map (some t.ms)) (.int .i64 s) true).run Try.prog (w3.drewN n) = .ok (.tuple #[.pointer (some ⟨eb, 0, none⟩), .bool true]) (w3.drewN n) := fun n => by
      have q := hlq n
      change _ = Result.ok (Value.tuple #[((t.q s).map Sg.ptr).getD (.pointer none), .bool (t.q s).isSome]) _ at q
      rw [hq] at q
      exact q
    clear hlq
    go_quiet (fail)
    have H4 : Hid (Sp.Sep W (w3.drewN nq) (J.set k (mI (stdA t i s p)))) := Lib.hid (H3.out.later (below_drewN (Below.refl _ _) nq))
    clear x1 y0 hlq2 H3
    generalize w3.drewN nq = X at *
    have HQ := Lib.hid hq
    have HQS : Hid ((t.q s).isSome = true) := Lib.hid (by rw [hq]; rfl)
    obtain ⟨A, c, hev⟩ := row_at ((mI_at H4.out (set_at HK0.out _)).ok (.r s) ⟨eb, ev, em⟩ hq)
    change ev = .slice A (t.sl s).length c at hev
    subst hev
    have HSLT : Hid (((stdA t i s p).sl s).length ≤ 100000) := Lib.hid (HSL.out HQS.out)
    have HLMT : Hid ((∀ k, (stdA t i s p).sc s k ≠ none → k ∈ LM) ∧ LM.length ≤ 100000) := Lib.hid ⟨HLM.out.1 HQS.out, HLM.out.2⟩
    have WI7 : Hid (IntKind.i64.wrap (((stdA t i s p).sc s i.toList).getD 0 + 1) = ((stdA t i s p).sc s i.toList).getD 0 + 1) := Lib.hid (by have e9 : (stdA t i s p).sc s i.toList = t.sc s i.toList := rfl; rw [e9]; exact IntWalk.i64_in _ (by have := HC2.out HQS.out; omega))
    clear hq
    go_upto_region 7 with fail

    have hk4 := set_at HK0.out (mI (stdA t i s p))
    have hl4 := set_far HL0.out (lt_of_at HK.out) (mI (stdA t i s p))
    have HE4 : Hid ((stdA t i s p).q s = some ⟨eb, .slice A (t.sl s).length c, em⟩) := Lib.hid (HQ.out)
    have hB4 := sgb H4.out hk4 HE4.out
    obtain ⟨v', W5, hap, hB5, ⟨A5, c5, hv5⟩, h6⟩ := sl_push H4.out.drew hk4 HE4.out p HSLT.out
    subst hv5
    have z0 : X.cell? ⟨eb, 0, none⟩ = some (.slice A (t.sl s).length c) := hB4.cell 0
    have z1 : X.drew.cell? ⟨eb, 0, none⟩ = some (.slice A (t.sl s).length c) := z0
    have z2 : (X.drew.alloc (.cells #[.int .i64 p] 3)).cell? ⟨eb, 0, none⟩ = some (.slice A (t.sl s).length c) := (World.cell?_of_block (w := X.drew) (Below.heap_alloc _ _ _ hB4.lt)).trans z1
    have z3 : (X.alloc (.cells #[.int .i64 p] 3)).cell? ⟨eb, 0, none⟩ = some (.slice A (t.sl s).length c) := z2
    have z4 : W5.frozen? ⟨eb, 0, none⟩ = false := hB5.frozen _
    have z5 : W5.cell? ⟨eb, 0, none⟩ = some (.slice A (t.sl s).length c) := hB5.cell 0
    have hN4 := loc_blk H4.out hl4
    have u1 : X.cell? ⟨nb, 1, none⟩ = some (.int .i64 p) := hN4.cell 1
    have u2 : X.drew.cell? ⟨nb, 1, none⟩ = some (.int .i64 p) := u1
    rw [List.set_set] at h6
    have hk6 := set_at HK0.out (mI ((stdA t i s p).pushS s ⟨eb, .slice A (t.sl s).length c, em⟩ p (.slice A5 (((stdA t i s p).sl s).length + 1) c5)))
    have HE6 : Hid (((stdA t i s p).pushS s ⟨eb, .slice A (t.sl s).length c, em⟩ p (.slice A5 (((stdA t i s p).sl s).length + 1) c5)).q s = some ⟨eb, .slice A5 (((stdA t i s p).sl s).length + 1) c5, em⟩) := Lib.hid (by show up _ s _ s = _; rw [up_at])
    have hl6 := m_look h6 hk6 HE6.out HI.out
    have b6 := (sgb h6 hk6 HE6.out).cell 1
    obtain ⟨w7, hrun7, h7⟩ := sc_put h6 hk6 HE6.out HI.out (((stdA t i s p).sc s i.toList).getD 0 + 1) HLMT.out.1 HLMT.out.2
    rw [List.set_set, ← HJ.out, app_set HK.out] at h7
    have H7 := Lib.hid (loc_drop h7)
    have wi7 := WI7.out
    change (Instr.lookup 55 (.map (some em)) (.string i) false).run Try.prog _ = .ok (.int .i64 (((stdA t i s p).sc s i.toList).getD 0)) _ at hl6
    change (Instr.mapUpdate 55 (.map (some em)) (.string i) (.int .i64 (((stdA t i s p).sc s i.toList).getD 0 + 1))).run Try.prog _ = .ok () w7 at hrun7
    change World.cell? _ ⟨eb, 1, none⟩ = some (.map (some em)) at b6
    change (Builtin.append_ #[50, 50] 50 #[.slice A (t.sl s).length c, .slice (some ⟨X.drew.heap.size, 0, none⟩) 1 1]).run Try.prog _ = _ at hap
    generalize hLN : ((stdA t i s p).sl s).length = LN at *
    generalize hSC : ((stdA t i s p).sc s i.toList).getD 0 = SC at *
    clear hk4 hl4 hB4 hB5 hN4 h6 hk6 h7
    go_region_law (refine step_push rfl (.tmp 47) (.tmp 50) rfl rfl (.slice A (t.sl s).length c) (.slice (some ⟨X.drew.heap.size, 0, none⟩) 1 1) (by simp [Act.eval]) (by simp [Act.eval]) hap ?_)
    all_goals (try go_wp2_with fail)
    all_goals (
      go_end0
      refine ⟨rfl, ?_⟩
      refine ⟨.slice A5 (LN + 1) c5, fun e he => ?_, fun hn => ?_⟩
      · have := he.symm.trans HQ.out
        injection this with this
        subst this
        unfold stdB
        have q := H7.out
        rw [← hSC] at q
        exact q
      · rw [HQ.out] at hn
        cases hn)
  | none =>
    have hlq2 : ∀ n : Nat, (Instr.lookup 54 (.map (some t.ms)) (.int .i64 s) true).run Try.prog (w3.drewN n) = .ok (.tuple #[.pointer none, .bool false]) (w3.drewN n) := fun n => by
      have q := hlq n
      change _ = Result.ok (Value.tuple #[((t.q s).map Sg.ptr).getD (.pointer none), .bool (t.q s).isSome]) _ at q
      rw [hq] at q
      exact q
    clear hlq
    have hmm : ∀ w : World, (Instr.makeMap 55 none).run Try.prog w = .ok (.map (some w.heap.size)) (w.alloc (.map #[] 0)) := fun _ => run_makeMap _ _
    go_quiet (fail)
    have H4 : Hid (Sp.Sep W (w3.drewN nq) (J.set k (mI (stdA t i s p)))) := Lib.hid (H3.out.later (below_drewN (Below.refl _ _) nq))
    clear x1 y0 hlq2 H3
    generalize w3.drewN nq = X0 at *
    have HQ := Lib.hid hq
    clear hq
    go_upto_region 6 with fail
    obtain ⟨w5, hrun5, h5⟩ := q_new H4.out (set_at HK0.out _) HS.out HQ.out HLS.out.1 HLS.out.2
    rw [List.set_set] at h5
    have h4a := (H4.out.alloc (.map #[] 0)).alloc (.cells (sg0 X0.heap.size) 63)
    have q1 := ix1 h4a (set_at HK0.out _)
    have q2 := (loc_blk h4a (set_far HL0.out (lt_of_at HK.out) _)).cell 0
    change World.cell? _ ⟨t.g, 1, none⟩ = some (.map (some t.ms)) at q1
    change World.cell? _ ⟨nb, 0, none⟩ = some (.int .i64 s) at q2
    have q3 : ((X0.alloc (.map #[] 0)).alloc (.cells (sg0 X0.heap.size) 63)).drew.cell? ⟨t.g, 1, none⟩ = some (.map (some t.ms)) := q1
    have q4 : ((X0.alloc (.map #[] 0)).alloc (.cells (sg0 X0.heap.size) 63)).drew.cell? ⟨nb, 0, none⟩ = some (.int .i64 s) := q2
    change (Instr.mapUpdate 54 (.map (some t.ms)) (.int .i64 s) (.pointer (some ⟨X0.heap.size + 1, 0, none⟩))).run Try.prog _ = .ok () w5 at hrun5
    have H5 := Lib.hid h5
    clear h4a h5 H4 hmm
    generalize (X0.alloc (.map #[] 0)).alloc (.cells (sg0 X0.heap.size) 63) = X5 at *
    generalize X0.heap.size = m0 at *
    clear X0
    go_region
    all_goals (try go_upto_region 7 with fail)
    clear q1 q2 q3 q4 hrun5
    have H4 := H5
    clear H5
    generalize w5 = X at *
    have HSLT : Hid ((((stdA t i s p).newS s m0).sl s).length ≤ 100000) := Lib.hid (by show (up _ s [] s).length ≤ _; rw [up_at]; simp)
    have HLMT : Hid ((∀ k, ((stdA t i s p).newS s m0).sc s k ≠ none → k ∈ LM) ∧ LM.length ≤ 100000) := Lib.hid ⟨fun k hk => absurd (by show (up (stdA t i s p).sc s (fun _ => none) : Int → Key → Option Int) s k = none; rw [up_at]) hk, HLM.out.2⟩
    have WI7 : Hid (IntKind.i64.wrap ((((stdA t i s p).newS s m0).sc s i.toList).getD 0 + 1) = (((stdA t i s p).newS s m0).sc s i.toList).getD 0 + 1) := Lib.hid (by have e9 : ((stdA t i s p).newS s m0).sc s i.toList = none := (by show (up (stdA t i s p).sc s (fun _ => none) : Int → Key → Option Int) s i.toList = none; rw [up_at]); rw [e9]; exact IntWalk.i64_in _ (by simp))
    have HLZ : Hid ((((stdA t i s p).newS s m0).sl s).length = 0) := Lib.hid (by show (up _ s [] s).length = _; rw [up_at]; rfl)

    have hk4 := set_at HK0.out (mI ((stdA t i s p).newS s m0))
    have hl4 := set_far HL0.out (lt_of_at HK.out) (mI ((stdA t i s p).newS s m0))
    have HE4 : Hid (((stdA t i s p).newS s m0).q s = some ⟨m0 + 1, .slice none 0 0, m0⟩) := Lib.hid ((by show up _ s _ s = _; rw [up_at]))
    have hB4 := sgb H4.out hk4 HE4.out
    obtain ⟨v', W5, hap, hB5, ⟨A5, c5, hv5⟩, h6⟩ := sl_push H4.out.drew hk4 HE4.out p HSLT.out
    subst hv5
    have z0 : X.cell? ⟨m0 + 1, 0, none⟩ = some (.slice none 0 0) := hB4.cell 0
    have z1 : X.drew.cell? ⟨m0 + 1, 0, none⟩ = some (.slice none 0 0) := z0
    have z2 : (X.drew.alloc (.cells #[.int .i64 p] 3)).cell? ⟨m0 + 1, 0, none⟩ = some (.slice none 0 0) := (World.cell?_of_block (w := X.drew) (Below.heap_alloc _ _ _ hB4.lt)).trans z1
    have z3 : (X.alloc (.cells #[.int .i64 p] 3)).cell? ⟨m0 + 1, 0, none⟩ = some (.slice none 0 0) := z2
    have z4 : W5.frozen? ⟨m0 + 1, 0, none⟩ = false := hB5.frozen _
    have z5 : W5.cell? ⟨m0 + 1, 0, none⟩ = some (.slice none 0 0) := hB5.cell 0
    have hN4 := loc_blk H4.out hl4
    have u1 : X.cell? ⟨nb, 1, none⟩ = some (.int .i64 p) := hN4.cell 1
    have u2 : X.drew.cell? ⟨nb, 1, none⟩ = some (.int .i64 p) := u1
    rw [List.set_set] at h6
    have hk6 := set_at HK0.out (mI (((stdA t i s p).newS s m0).pushS s ⟨m0 + 1, .slice none 0 0, m0⟩ p (.slice A5 ((((stdA t i s p).newS s m0).sl s).length + 1) c5)))
    have HE6 : Hid ((((stdA t i s p).newS s m0).pushS s ⟨m0 + 1, .slice none 0 0, m0⟩ p (.slice A5 ((((stdA t i s p).newS s m0).sl s).length + 1) c5)).q s = some ⟨m0 + 1, .slice A5 ((((stdA t i s p).newS s m0).sl s).length + 1) c5, m0⟩) := Lib.hid (by show up _ s _ s = _; rw [up_at])
    have hl6 := m_look h6 hk6 HE6.out HI.out
    have b6 := (sgb h6 hk6 HE6.out).cell 1
    obtain ⟨w7, hrun7, h7⟩ := sc_put h6 hk6 HE6.out HI.out ((((stdA t i s p).newS s m0).sc s i.toList).getD 0 + 1) HLMT.out.1 HLMT.out.2
    rw [List.set_set, ← HJ.out, app_set HK.out] at h7
    have H7 := Lib.hid (loc_drop h7)
    have wi7 := WI7.out
    change (Instr.lookup 55 (.map (some m0)) (.string i) false).run Try.prog _ = .ok (.int .i64 ((((stdA t i s p).newS s m0).sc s i.toList).getD 0)) _ at hl6
    change (Instr.mapUpdate 55 (.map (some m0)) (.string i) (.int .i64 ((((stdA t i s p).newS s m0).sc s i.toList).getD 0 + 1))).run Try.prog _ = .ok () w7 at hrun7
    change World.cell? _ ⟨m0 + 1, 1, none⟩ = some (.map (some m0)) at b6
    change (Builtin.append_ #[50, 50] 50 #[.slice none 0 0, .slice (some ⟨X.drew.heap.size, 0, none⟩) 1 1]).run Try.prog _ = _ at hap
    generalize hLN : (((stdA t i s p).newS s m0).sl s).length = LN at *
    generalize hSC : (((stdA t i s p).newS s m0).sc s i.toList).getD 0 = SC at *
    clear hk4 hl4 hB4 hB5 hN4 h6 hk6 h7
    go_region_law (refine step_push rfl (.tmp 47) (.tmp 50) rfl rfl (.slice none 0 0) (.slice (some ⟨X.drew.heap.size, 0, none⟩) 1 1) (by simp [Act.eval]) (by simp [Act.eval]) hap ?_)
    all_goals (try go_wp2_with fail)
    all_goals (
      go_end0
      refine ⟨rfl, ?_⟩
      refine ⟨.slice A5 (LN + 1) c5, fun e he => ?_, fun hn => ⟨m0, ?_⟩⟩
      · rw [HQ.out] at he
        cases he
      · unfold stdB
        have q := H7.out
        rw [← hSC] at q
        exact q)
end
end Go.Proofs.Ytjdkgkllgapgjaa.Px
