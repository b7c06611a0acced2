/- For every list of records, and numbers, the statement ReplayTomb about replay returns true, and changes nothing. Conditions: none. -/
import Derived.Test.YtckakkocblkcoaaReT
import Derived.ProofKit
import Derived.OpenShut
import Derived.ShutString
import Derived.SizedLaws
namespace Go.Proofs.Ytckakkocblkcoaa.replayTomb
open Go.ChangeShapes Go.WideShapes Go.ChangeAt Go.RowKit Go.Lib Go.MapKept
open Go.ChangeMaps (open_string shut_string)
set_option linter.unusedVariables false

theorem own : ownKnob Try.prog.godebug = none := by kernel_rfl
theorem laid : laidOutB Try.prog = true := by kernel_rfl

set_option maxRecDepth 100000
open Re Sp
set_option maxHeartbeats 32000000 in
theorem walk (P : Prg) (A : Option Addr) (n p : Nat) (L : List Rec) (i : ByteArray) (now : Int) (w : World) (hL : RR w A n L) (hn : n ≤ maxLen) (hf : Fine L) (hi : i.size ≤ maxLen) (h1 : 0 ≤ now ∧ now < 18446744073709551616) :
    Calls Try.prog 8 #[.slice A n p, .string i, .int .u64 now] w fun e w' => e = .returned (.bool true) ∧ Below w.heap.size w w' := by
  have HC : Hid (Calls Try.prog 9 #[.slice A n p, .int .i64 40] w fun e w' => ∃ g' p', e = .returned (.slice (some ⟨g', 0, none⟩) (min 40 n) p') ∧ Sp.Sep w w' [rowS 42 7 (.slice (some ⟨g', 0, none⟩) (min 40 n) p') (min 40 n) ((cutL L 40).flatMap rcC)]) := Lib.hid (cutl_any hL hn 40 (by decide) (fun r hr => ⟨(hf r hr).i, (hf r hr).a⟩))
  have HF := Lib.hid (cut_fine hf 40)
  have HLC := Lib.hid (show (cutL L 40).length = min 40 n by rw [cutL_len, hL.len])
  have HN := Lib.hid (show min 40 n ≤ 40 by omega)
  have HW := Lib.hid h1
  unfold maxLen at hi
  obtain ⟨I, eI⟩ : ∃ z, i.extract 0 (min (i.size : Int) 20).toNat = z := ⟨_, rfl⟩
  have HI20 : Hid (I.size ≤ 20) := Lib.hid (by rw [← eI, ByteArray.size_extract]; omega)
  have HEI := Lib.hid eI
  clear hL hn hf h1 eI
  generalize cutL L 40 = C at *
  generalize min 40 n = nc at *
  go_enter Try.func8, Try.ntmps8
  go_wp2_with fail
  refine HC.out.mono ?_
  rintro e' w1 ⟨gc, pc, rfl, hS⟩
  have HS0 := Lib.hid hS
  clear HC hS
  go_wp2_with fail
  rw [HEI.out]
  clear HEI hi
  go_loopg [7] nc (fun gk s7 wr => ∃ (k : Nat), k ≤ nc ∧ gk = nc - k ∧ s7 = .int .i64 (k : Nat) ∧ Hid (Sp.Sep w wr [rowS 42 7 (.slice (some ⟨gc, 0, none⟩) nc pc) nc ((mixL C k).flatMap rcC)]))
  case atStart => exact ⟨0, by omega, rfl, rfl, HS0⟩
  case round =>
    obtain ⟨k, hk, hgk, rfl, HI⟩ := hrel
    have HGK := Lib.hid hgk
    clear hgk HS0
    by_cases hlt : k < nc
    · have hki : (k : Int) < (nc : Int) := by omega
      obtain ⟨r, hr⟩ : ∃ r, C[k]? = some r := ⟨_, List.getElem?_eq_getElem (by rw [HLC.out]; exact hlt)⟩
      have RW := rows_own HI.out (k := 0) rfl
      obtain ⟨gc', e0, hc⟩ := rows_cell HI.out (k := 0) rfl (by omega)
      injection e0 with e0
      injection e0 with e0
      subst e0
      have x3 : wr.cell? ⟨gc, k * 7 + 3, none⟩ = some (.int .u64 r.v) := by
        rw [hc _ (by omega), flat_get rcC 7 rcC_len _ k r 3 (mix_at hr) (by decide)]
        rfl
      have z3 := RW.frozenAt (k * 7 + 3)
      have hv : 0 ≤ r.v := (HF.out r (List.mem_of_getElem? hr)).v.1
      have e1 : r.v.tmod 1000000 = r.v % 1000000 := Int.tmod_eq_emod_of_nonneg hv
      have e2 : IntKind.u64.wrap (r.v % 1000000) = r.v % 1000000 := by rw [IntKind.wrap_u64]; omega
      have e3 : IntKind.u64.wrap (r.v.tmod 1000000) = r.v % 1000000 := by rw [e1, e2]
      have wk : IntKind.i64.wrap ((k : Int) + 1) = (k : Int) + 1 := IntWalk.i64_in _ (by have := HN.out; omega)
      have H2 : Hid (Sp.Sep w (wr.setCell ⟨gc, k * 7 + 3, none⟩ (.int .u64 (r.v % 1000000))) [rowS 42 7 (.slice (some ⟨gc, 0, none⟩) nc pc) nc ((mixL C (k + 1)).flatMap rcC)]) := Lib.hid (by
        rw [← mix_next hr]
        exact rows_ver HI.out (k := 0) rfl (mix_at hr) (r.v % 1000000))
      clear hc hr RW
      go_wp2_with fail
      go_roundg (nc - (k + 1))
      case measure => have := HGK.out; omega
      case rel => exact ⟨k + 1, by omega, by have := HGK.out; omega, by go_num, H2⟩
    · obtain rfl : nc = k := by omega
      have HM := HI.out
      rw [← HLC.out, mix_all, HLC.out] at HM
      have hC := Lib.hid (RR.of_row HM (k := 0) rfl (L := C.map modR) (by rw [List.length_map, HLC.out]))
      have BB := Lib.hid HM.below
      have HFM := Lib.hid (mod_fine HF.out)
      have HVM := Lib.hid (mod_lt HF.out)
      clear HI HM HF hlt hk HLC HGK
      generalize C.map modR = M at *
      have HK := Lib.hid (P.ss pc now hC.out (by have := HN.out; omega) HFM.out HW.out)
      go_wp2_with fail
      refine HK.out.mono ?_
      rintro e' wk1 ⟨AW, pW, rfl, hr, hb⟩
      replace hC := Lib.hid (hC.out.later hb)
      replace BB := Lib.hid (BB.out.trans (hb.mono BB.out.size))
      have hW := Lib.hid hr
      clear HK hb hr
      have S3 : Sp.Sep wk1 (wk1.alloc (.cells #[] 42)) [rowS 42 7 (.slice (some ⟨wk1.heap.size, 0, none⟩) 0 0) 0 []] := rows_lit (Sp.Sep.nil (Below.refl _ _)) 42 7
      have hCw := hC.out.later S3.below
      have hq1 : 0 + nc < 1000 := by have := HN.out; omega
      have hq2 : nc + 1 < 1000 := by have := HN.out; omega
      have HZS : (Value.agg #[.int .u64 0, .int .u32 0, .int .i64 0, .int .u64 0, .int .u64 0, .string ⟨#[]⟩, .string ⟨#[]⟩]).cells.size = 7 := rfl
      have HLN := rcC_len (tombR I)
      have HC1 := rc_one (tombR I)
      go_wp2_with (first | (refine wp_append_r rfl (.tmp 42) (.tmp 43) rfl rfl _ _ _ rfl S3 0 rfl hCw hq1 ?_; intro g1 p1 v1 h1; have S4 : Sp.Sep wk1 v1 [rowS 42 7 (.slice (some ⟨g1, 0, none⟩) nc p1) nc (M.flatMap rcC)] := (by simpa using h1); clear h1; try simp only [Nat.zero_add]) | (refine wp_append_l (cs := rcC (tombR I)) prec_infos HZS (by decide) (by decide) Try.underlying22 rfl (.tmp 44) (.tmp 47) rfl rfl _ 1 1 rfl (S4.alloc _) 0 rfl hq2 HLN (new_cells _ _ _) HC1 ?_; intro g2 p2 v2 h2; have S5 : Sp.Sep wk1 v2 [rowS 42 7 (.slice (some ⟨g2, 0, none⟩) (nc + 1) p2) (nc + 1) ((M ++ [tombR I]).flatMap rcC)] := (by simpa using h2); clear h2; have HS5 := Lib.hid S5; clear S5))
      have hT := RR.of_row HS5.out (k := 0) rfl (L := M ++ [tombR I]) (by rw [List.length_append, hC.out.len]; rfl)
      have HK := Lib.hid (P.ss p2 now hT (by have := HN.out; omega) (plus_fine HFM.out (tomb_ok HI20.out)) HW.out)
      replace hC := Lib.hid (hC.out.later HS5.out.below)
      replace hW := Lib.hid (hW.out.later HS5.out.below)
      replace BB := Lib.hid (BB.out.trans (HS5.out.below.mono BB.out.size))
      clear S3 S4 hCw hq1 hq2 HZS HLN HC1 HS5 hT
      refine HK.out.mono ?_
      rintro e' wk2 ⟨AG, pG, rfl, hr, hb⟩
      have hG := Lib.hid hr
      replace hC := Lib.hid (hC.out.later hb)
      replace hW := Lib.hid (hW.out.later hb)
      replace BB := Lib.hid (BB.out.trans (hb.mono BB.out.size))
      clear HK hb hr
      have S3 : Sp.Sep wk2 (wk2.alloc (.cells #[] 42)) [rowS 42 7 (.slice (some ⟨wk2.heap.size, 0, none⟩) 0 0) 0 []] := rows_lit (Sp.Sep.nil (Below.refl _ _)) 42 7
      have hCw := hC.out.later S3.below
      have hq1 : 0 + nc < 1000 := by have := HN.out; omega
      have hq2 : nc + 1 < 1000 := by have := HN.out; omega
      have HZS : (Value.agg #[.int .u64 0, .int .u32 0, .int .i64 0, .int .u64 0, .int .u64 0, .string ⟨#[]⟩, .string ⟨#[]⟩]).cells.size = 7 := rfl
      have HLN := rcC_len (liveR I)
      have HC1 := rc_one (liveR I)
      go_wp2_with (first | (refine wp_append_r rfl (.tmp 51) (.tmp 52) rfl rfl _ _ _ rfl S3 0 rfl hCw hq1 ?_; intro g1 p1 v1 h1; have S4 : Sp.Sep wk2 v1 [rowS 42 7 (.slice (some ⟨g1, 0, none⟩) nc p1) nc (M.flatMap rcC)] := (by simpa using h1); clear h1; try simp only [Nat.zero_add]) | (refine wp_append_l (cs := rcC (liveR I)) prec_infos HZS (by decide) (by decide) Try.underlying22 rfl (.tmp 53) (.tmp 56) rfl rfl _ 1 1 rfl (S4.alloc _) 0 rfl hq2 HLN (new_cells _ _ _) HC1 ?_; intro g2 p2 v2 h2; have S5 : Sp.Sep wk2 v2 [rowS 42 7 (.slice (some ⟨g2, 0, none⟩) (nc + 1) p2) (nc + 1) ((M ++ [liveR I]).flatMap rcC)] := (by simpa using h2); clear h2; have HS5 := Lib.hid S5; clear S5))
      have hT := RR.of_row HS5.out (k := 0) rfl (L := M ++ [liveR I]) (by rw [List.length_append, hC.out.len]; rfl)
      have HK := Lib.hid (P.ss p2 now hT (by have := HN.out; omega) (plus_fine HFM.out (live_ok HI20.out)) HW.out)
      replace hC := Lib.hid (hC.out.later HS5.out.below)
      replace hW := Lib.hid (hW.out.later HS5.out.below)
      replace hG := Lib.hid (hG.out.later HS5.out.below)
      replace BB := Lib.hid (BB.out.trans (HS5.out.below.mono BB.out.size))
      clear S3 S4 hCw hq1 hq2 HZS HLN HC1 HS5 hT
      refine HK.out.mono ?_
      rintro e' wk3 ⟨AB, pB, rfl, hr, hb⟩
      have hB := Lib.hid hr
      replace hC := Lib.hid (hC.out.later hb)
      replace hW := Lib.hid (hW.out.later hb)
      replace hG := Lib.hid (hG.out.later hb)
      replace BB := Lib.hid (BB.out.trans (hb.mono BB.out.size))
      clear HK hb hr
      have HEG := Lib.hid (ses_tomb I now HVM.out)
      have HEB := Lib.hid (ses_live_but I now HVM.out)
      have HAT : Hid (∀ s ∈ sesL (newest (M ++ [liveR I])) now, s.i.toList = I.toList → s.a.toList = [] ∧ s.d = 18446744073709551615) := Lib.hid (fun s hs => ses_live_at I now HVM.out hs)
      have HIN := Lib.hid (ses_live_in I now HVM.out)
      have HLN : Hid ((sesL (newest M) now).length ≤ 41 ∧ (sesL (newest (M ++ [liveR I])) now).length ≤ 41) := Lib.hid (by
        have h1 := sesL_len (newest M) now
        have h2 := sesL_len (newest (M ++ [liveR I])) now
        have h3 := newest_len M
        have h4 := newest_len (M ++ [liveR I])
        rw [List.length_append] at h4
        have h5 := hC.out.len
        have h6 := HN.out
        simp only [List.length_cons, List.length_nil] at h4
        omega)
      rw [HEG.out] at hG ⊢
      clear HEG HVM HFM hC HN
      generalize sesL (newest M) now = a at *
      generalize sesL (newest (M ++ [liveR I])) now = b at *
      obtain ⟨na, ena⟩ : ∃ z, a.length = z := ⟨_, rfl⟩
      obtain ⟨nb, enb⟩ : ∃ z, b.length = z := ⟨_, rfl⟩
      have HEA := Lib.hid ena
      have HEN := Lib.hid enb
      rw [ena] at hW HLN ⊢
      rw [enb] at hB HLN ⊢
      clear ena enb
      have S6 : Sp.Sep wk3 (wk3.alloc (.cells #[] 46)) [rowS 46 3 (.slice (some ⟨wk3.heap.size, 0, none⟩) 0 0) 0 []] := rows_lit (Sp.Sep.nil (Below.refl _ _)) 46 3
      go_upto_region 11 with fail
      change Code.wp _ _ _ _ (wk3.alloc (.cells #[] 46))
      have HS6 := Lib.hid S6
      clear S6
      generalize wk3.heap.size = b3 at HS6 ⊢
      generalize wk3.alloc (.cells #[] 46) = w3 at *
      go_wp2_with fail
      go_loopg [11, 12] na (fun gk s11 s12 wr => ∃ (i : Nat) (A' : Option Addr) (p' : Nat), i ≤ na ∧ gk = na - i ∧ s11 = .slice A' (butS I.toList (a.take i)).length p' ∧ s12 = .int .i64 (i : Nat) ∧ Hid (Sp.Sep wk3 wr [rowS 46 3 (.slice A' (butS I.toList (a.take i)).length p') (butS I.toList (a.take i)).length ((butS I.toList (a.take i)).flatMap seC)]))
      case atStart => exact ⟨0, _, _, by omega, rfl, rfl, rfl, HS6⟩
      case round =>
        obtain ⟨k, A', p', hk, hgk, rfl, rfl, HI⟩ := hrel
        have HGK := Lib.hid hgk
        clear hgk HS6
        by_cases hlt : k < na
        · have hki : (k : Int) < (na : Int) := by omega
          obtain ⟨s, hs⟩ : ∃ s, a[k]? = some s := ⟨_, List.getElem?_eq_getElem (by rw [HEA.out]; exact hlt)⟩
          obtain ⟨ga, oa, rfl, hca⟩ := hW.out.c (by omega)
          have R := (hca k s hs).later HI.out.below
          have x0 := R.c0
          have x1 := R.c1
          have x2 := R.c2
          have wk : IntKind.i64.wrap ((k : Int) + 1) = (k : Int) + 1 := IntWalk.i64_in _ (by have := HLN.out; omega)
          have HSK := Lib.hid hs
          have HLT := Lib.hid hlt
          obtain ⟨m, em⟩ : ∃ m, (butS I.toList (a.take k)).length = m := ⟨_, rfl⟩
          have hm : m < 1000 := by
            have h1 := butS_len I.toList (a.take k)
            rw [em, List.length_take] at h1
            have := HLN.out
            omega
          have HM := Lib.hid em
          have S := HI.out
          rw [em] at S ⊢
          clear em hca R hs hlt
          by_cases hx : s.i.toList = I.toList
          · have q1 : (s.i.toList == I.toList) = true := by simpa using hx
            have HX := Lib.hid (butS_no HSK.out hx)
            clear S hx
            go_wp2_with fail
            go_roundg (na - (k + 1))
            case measure => have := HGK.out; have := HLT.out; omega
            case rel => exact ⟨k + 1, A', p', by have := HLT.out; omega, by have := HGK.out; omega, by rw [HX.out, HM.out], by go_num, Lib.hid (by rw [HX.out]; exact HI.out)⟩
          · have q1 : (s.i.toList == I.toList) = false := by simpa using hx
            have HX := Lib.hid (butS_yes HSK.out hx)
            have HZS : (Value.agg #[.string ⟨#[]⟩, .string ⟨#[]⟩, .int .u64 0]).cells.size = 3 := rfl
            have HLS := seC_len s
            have HC1 := se_one s
            clear hx
            go_upto_region 13 with (refine wp_append_s (cs := seC s) pses_infos HZS (by decide) (by decide) Try.underlying33 rfl (.tmp 74) (.tmp 79) rfl rfl rfl S 0 rfl hm HLS HC1 ?_; intro v3 w15 h15; clear HZS HLS HC1 x0 x1 x2; obtain ⟨A9, p9, rfl⟩ := rows_slice h15 (k := 0) rfl; have H15 := Lib.hid h15; clear h15 S)
            have E2 : m + 1 = (butS I.toList (a.take (k + 1))).length := by rw [HX.out, List.length_append, HM.out]; rfl
            have H16 : Hid (Sp.Sep wk3 w15 [rowS 46 3 (.slice A9 (butS I.toList (a.take (k + 1))).length p9) (butS I.toList (a.take (k + 1))).length ((butS I.toList (a.take (k + 1))).flatMap seC)]) := Lib.hid (by
              rw [← E2, HX.out, List.flatMap_append]
              exact H15.out)
            clear H15
            go_wp2_with fail
            go_roundg (na - (k + 1))
            case measure => have := HGK.out; have := HLT.out; omega
            case rel => exact ⟨k + 1, A9, p9, by have := HLT.out; omega, by have := HGK.out; omega, by rw [E2], by go_num, H16⟩
        · obtain rfl : na = k := by omega
          have hta : a.take na = a := by rw [← HEA.out, List.take_length]
          have S8 := HI.out
          rw [hta] at S8 ⊢
          have hV := Lib.hid (SR.of_row (L := butS I.toList a) S8 (k := 0) rfl rfl)
          replace hG := Lib.hid (hG.out.later S8.below)
          replace hB := Lib.hid (hB.out.later S8.below)
          replace BB := Lib.hid (BB.out.trans (S8.below.mono BB.out.size))
          have HVL : Hid ((butS I.toList a).length < 1000) := Lib.hid (by have h1 := butS_len I.toList a; have h2 := HEA.out; have h3 := HLN.out; omega)
          clear HI S8 hta hlt hk hW HGK
          obtain ⟨V, eV⟩ : ∃ z, butS I.toList a = z := ⟨_, rfl⟩
          rw [eV] at hG hV HVL HEB ⊢
          clear eV HEA
          obtain ⟨nv, env⟩ : ∃ z, V.length = z := ⟨_, rfl⟩
          have HNV := Lib.hid env
          rw [env] at hG hV HVL ⊢
          clear env
          have HK := Lib.hid (lives_any (p := pG) hG.out HVL.out)
          go_wp2_with fail
          refine HK.out.mono ?_
          rintro e' wk11 ⟨A1, p1, rfl, hr, hb⟩
          replace hG := Lib.hid (hG.out.later hb)
          replace hV := Lib.hid (hV.out.later hb)
          replace hB := Lib.hid (hB.out.later hb)
          replace BB := Lib.hid (BB.out.trans (hb.mono BB.out.size))
          have h1 := Lib.hid hr
          clear HK hb hr
          clear hG
          have HK := Lib.hid (lives_any (p := p') hV.out HVL.out)
          go_wp2_with fail
          refine HK.out.mono ?_
          rintro e' wk12 ⟨A2, p2, rfl, hr, hb⟩
          replace hV := Lib.hid (hV.out.later hb)
          replace hB := Lib.hid (hB.out.later hb)
          replace h1 := Lib.hid (h1.out.later hb)
          replace BB := Lib.hid (BB.out.trans (hb.mono BB.out.size))
          have h2 := Lib.hid hr
          clear HK hb hr
          have HK := Lib.hid (same_yes (p := p1) (q := p2) h1.out h2.out (by have := HVL.out; omega))
          go_wp2_with fail
          refine HK.out.mono ?_
          rintro e' wk13 ⟨rfl, hb⟩
          replace hV := Lib.hid (hV.out.later hb)
          replace hB := Lib.hid (hB.out.later hb)
          replace h1 := Lib.hid (h1.out.later hb)
          replace h2 := Lib.hid (h2.out.later hb)
          replace BB := Lib.hid (BB.out.trans (hb.mono BB.out.size))
          clear HK hb
          clear h1 h2
          obtain ⟨f, ef⟩ : ∃ f, (now == 18446744073709551615) = f := ⟨_, rfl⟩
          have HOK : Hid (f = true ∨ ∃ s ∈ b, s.i.toList = I.toList) := Lib.hid (by
            cases f with
            | true => exact .inl rfl
            | false =>
              have h1 : now ≠ 18446744073709551615 := by simpa using ef
              have h2 := HW.out
              exact .inr (HIN.out (by omega)))
          have S9 : Sp.Sep wk13 (wk13.alloc (.cells #[] 46)) [rowS 46 3 (.slice (some ⟨wk13.heap.size, 0, none⟩) 0 0) 0 []] := rows_lit (Sp.Sep.nil (Below.refl _ _)) 46 3
          go_upto_region 19 with fail
          change Code.wp _ _ _ _ (wk13.alloc (.cells #[] 46))
          have HS9 := Lib.hid S9
          clear S9 ef HIN HW
          obtain ⟨b9, e9⟩ : ∃ z, wk13.heap.size = z := ⟨_, rfl⟩
          rw [e9] at HS9 ⊢
          clear e9
          generalize wk13.alloc (.cells #[] 46) = w9 at *
          go_wp2_with fail
          go_loopg [13, 14, 15] nb (fun gk s13 s14 s15 wr => ∃ (i : Nat) (A' : Option Addr) (p' : Nat) (ok : Bool), i ≤ nb ∧ gk = nb - i ∧ s13 = .slice A' (butS I.toList (b.take i)).length p' ∧ s14 = .bool ok ∧ s15 = .int .i64 (i : Nat) ∧ Hid ((ok = true ∨ ∃ s ∈ b.drop i, s.i.toList = I.toList) ∧ Sp.Sep wk13 wr [rowS 46 3 (.slice A' (butS I.toList (b.take i)).length p') (butS I.toList (b.take i)).length ((butS I.toList (b.take i)).flatMap seC)]))
          case atStart => exact ⟨0, _, _, _, by omega, rfl, rfl, rfl, rfl, Lib.hid ⟨HOK.out, HS9.out⟩⟩
          case round =>
            obtain ⟨k, A2', p2', ok, hk, hgk, rfl, rfl, rfl, HI⟩ := hrel
            have HGK := Lib.hid hgk
            clear hgk HS9 HOK
            by_cases hlt : k < nb
            · have hki : (k : Int) < (nb : Int) := by omega
              obtain ⟨s, hs⟩ : ∃ s, b[k]? = some s := ⟨_, List.getElem?_eq_getElem (by rw [HEN.out]; exact hlt)⟩
              obtain ⟨ga, oa, rfl, hca⟩ := hB.out.c (by omega)
              have R := (hca k s hs).later HI.out.2.below
              have x0 := R.c0
              have x1 := R.c1
              have x2 := R.c2
              have wk : IntKind.i64.wrap ((k : Int) + 1) = (k : Int) + 1 := IntWalk.i64_in _ (by have := HLN.out; omega)
              have HSK := Lib.hid hs
              have HLT := Lib.hid hlt
              obtain ⟨m, em⟩ : ∃ m, (butS I.toList (b.take k)).length = m := ⟨_, rfl⟩
              have hm : m < 1000 := by
                have h1 := butS_len I.toList (b.take k)
                rw [em, List.length_take] at h1
                have := HLN.out
                omega
              have HM := Lib.hid em
              have S := HI.out.2
              rw [em] at S ⊢
              clear em hca R hs hlt
              by_cases hx : s.i.toList = I.toList
              · have q1 : (s.i.toList == I.toList) = true := by simpa using hx
                have HX := Lib.hid (butS_no HSK.out hx)
                obtain ⟨ha, hd⟩ := HAT.out s (List.mem_of_getElem? HSK.out) hx
                have ha2 : s.a = ⟨#[]⟩ := ByteArray.ext (Array.toList_inj.1 (by rw [← Go.Lib.toList_data, ha]))
                rw [ha2] at x1
                rw [hd] at x2
                clear S hx ha hd ha2
                go_wp2_with fail
                go_roundg (nb - (k + 1))
                case measure => have := HGK.out; have := HLT.out; omega
                case rel => exact ⟨k + 1, A2', p2', true, by have := HLT.out; omega, by have := HGK.out; omega, by rw [HX.out, HM.out], rfl, by go_num, Lib.hid ⟨.inl rfl, by rw [HX.out]; exact HI.out.2⟩⟩
              · have q1 : (s.i.toList == I.toList) = false := by simpa using hx
                have HX := Lib.hid (butS_yes HSK.out hx)
                have HZS : (Value.agg #[.string ⟨#[]⟩, .string ⟨#[]⟩, .int .u64 0]).cells.size = 3 := rfl
                have HLS := seC_len s
                have HC1 := se_one s
                have HDR := Lib.hid (drop_one HSK.out)
                have HNX := Lib.hid hx
                clear hx
                go_upto_region 21 with (refine wp_append_s (cs := seC s) pses_infos HZS (by decide) (by decide) Try.underlying33 rfl (.tmp 117) (.tmp 122) rfl rfl rfl S 0 rfl hm HLS HC1 ?_; intro v3 w15 h15; clear HZS HLS HC1 x0 x1 x2; obtain ⟨A9, p9, rfl⟩ := rows_slice h15 (k := 0) rfl; have H15 := Lib.hid h15; clear h15 S)
                have E2 : m + 1 = (butS I.toList (b.take (k + 1))).length := by rw [HX.out, List.length_append, HM.out]; rfl
                have H16 : Hid (Sp.Sep wk13 w15 [rowS 46 3 (.slice A9 (butS I.toList (b.take (k + 1))).length p9) (butS I.toList (b.take (k + 1))).length ((butS I.toList (b.take (k + 1))).flatMap seC)]) := Lib.hid (by
                  rw [← E2, HX.out, List.flatMap_append]
                  exact H15.out)
                clear H15
                go_wp2_with fail
                go_roundg (nb - (k + 1))
                case measure => have := HGK.out; have := HLT.out; omega
                case rel => exact ⟨k + 1, A9, p9, ok, by have := HLT.out; omega, by have := HGK.out; omega, by rw [E2], rfl, by go_num, Lib.hid ⟨by
                  rcases HI.out.1 with h | ⟨t, ht, hti⟩
                  · exact .inl h
                  · rw [HDR.out] at ht
                    rcases List.mem_cons.1 ht with rfl | ht
                    · exact absurd hti HNX.out
                    · exact .inr ⟨t, ht, hti⟩, H16.out⟩⟩
            · obtain rfl : nb = k := by omega
              have htb : b.take nb = b := by rw [← HEN.out, List.take_length]
              have hdb : b.drop nb = [] := List.drop_eq_nil_of_le (by rw [HEN.out]; exact Nat.le_refl _)
              obtain rfl : ok = true := by
                rcases HI.out.1 with h | ⟨t, ht, _⟩
                · exact h
                · rw [hdb] at ht
                  cases ht
              have S8 := HI.out.2
              rw [htb, HEB.out, HNV.out] at S8 ⊢
              have hL := Lib.hid (SR.of_row (L := V) S8 (k := 0) rfl HNV.out.symm)
              replace hV := Lib.hid (hV.out.later S8.below)
              replace BB := Lib.hid (BB.out.trans (S8.below.mono BB.out.size))
              clear HI S8 htb hdb hlt hk HGK hB HEB HAT HEN
              have HK := Lib.hid (lives_any (p := p2') hL.out HVL.out)
              go_wp2_with fail
              refine HK.out.mono ?_
              rintro e' wk21 ⟨A1, p1, rfl, hr, hb⟩
              replace hL := Lib.hid (hL.out.later hb)
              replace hV := Lib.hid (hV.out.later hb)
              replace BB := Lib.hid (BB.out.trans (hb.mono BB.out.size))
              have h1 := Lib.hid hr
              clear HK hb hr
              have HK := Lib.hid (lives_any (p := p') hV.out HVL.out)
              go_wp2_with fail
              refine HK.out.mono ?_
              rintro e' wk22 ⟨A2, p2, rfl, hr, hb⟩
              replace hL := Lib.hid (hL.out.later hb)
              replace hV := Lib.hid (hV.out.later hb)
              replace h1 := Lib.hid (h1.out.later hb)
              replace BB := Lib.hid (BB.out.trans (hb.mono BB.out.size))
              have h2 := Lib.hid hr
              clear HK hb hr
              have HK := Lib.hid (same_yes (p := p1) (q := p2) h1.out h2.out (by have := HVL.out; omega))
              go_wp2_with fail
              refine HK.out.mono ?_
              rintro e' wk23 ⟨rfl, hb⟩
              replace hL := Lib.hid (hL.out.later hb)
              replace hV := Lib.hid (hV.out.later hb)
              replace h1 := Lib.hid (h1.out.later hb)
              replace h2 := Lib.hid (h2.out.later hb)
              replace BB := Lib.hid (BB.out.trans (hb.mono BB.out.size))
              clear HK hb
              clear h1 h2 hL hV
              have HK := Lib.hid (fixed_any P wk23)
              go_wp2_with fail
              refine HK.out.mono ?_
              rintro e' wk24 ⟨rfl, hb⟩
              replace BB := Lib.hid (BB.out.trans (hb.mono BB.out.size))
              clear HK hb
              go_wp2_with fail
              go_ret
              exact ⟨rfl, BB.out⟩

set_option maxRecDepth 100000 in
theorem lifted (P : Prg) (os : Os) (started : os.Started) (H : Type) (enc : TypeId × Value → H) :
    ReturnsInHanded {} Try.checked os 8 .any (Rows.replayTombSpec.pre6 enc Try.prog Try.f8 Rows.replayTombRow.domain false) (Rows.replayTombSpec.post enc Try.prog Try.f8 false true false false) := by
  refine returnsInHanded_of_change (C := Try.checked) own started (by kernel_rfl) Try.func8
    (ChangeSpec.witness6 (enc := enc) (C := Try.checked) false ⟨#[], #[.slice none 0 0, .string ByteArray.empty, .int .u64 0], []⟩ 8 (by kernel_rfl) (by kernel_rfl) (by kernel_rfl) (by kernel_rfl)) ?_
  intro W base args ds gs before hval0 hW hcnd _
  have hval : ∀ (j : Nat) t v, Try.f8.params[j]? = some t → args[j]? = some v → Value.okWide Try.prog W .any base t v := hval0
  have hW' := hW
  obtain ⟨p, q, hA0, hV, rfl, hfz, hnd⟩ := hW
  have hA : DataW.TrodAll enc Try.prog W 0 (fun _ => true) true Try.f8.params.toList args.toList ds p := hA0
  rw [Try.params8] at hA hval
  obtain ⟨v0, vs0, d0, ds0, p0, q0, hargs, rfl, rfl, h0, r0⟩ := trodAll_cons hA
  obtain ⟨v1, vs1, d1, ds1, p1, q1, rfl, rfl, rfl, h1, r1⟩ := trodAll_cons r0
  obtain ⟨v2, vs2, d2, ds2, p2, q2, rfl, rfl, rfl, h2, r2⟩ := trodAll_cons r1
  obtain ⟨rfl, rfl, rfl⟩ := trodAll_nil r2
  obtain rfl : args = #[v0, v1, v2] := by cases args; simp_all
  obtain ⟨rfl, rfl⟩ := trodVars_none hV
  obtain ⟨A0, n0, c0, L0, rfl, hn0, hL0, hf0⟩ := Re.open_recs (hval 0 22 v0 rfl rfl) h0
  obtain ⟨a1, rfl, rfl, rfl, w1⟩ := open_string Try.underlying9 (hval 1 9 v1 rfl rfl) h1
  obtain ⟨a2, rfl, rfl, rfl, w2⟩ := open_int Try.underlying23 (hval 2 23 v2 rfl rfl) h2
  clear hA0 hval0
  try simp only [List.append_nil] at hW'
  try simp only [List.nil_append] at hW'
  have hlt := fun x hx => hW'.lt x hx
  refine (walk P A0 n0 c0 L0 a1 a2 W hL0 hn0 hf0 w1 (u64_of w2)).mono fun e W' ⟨he, hg⟩ => ?_
  subst he
  refine ⟨_, rfl, post_mem hW' (fun _ _ _ => (trodAll_cons_mk (shut_bool Try.underlying4 _) trodAll_mk0)) (fun sp hsp => ?_) (fun _ => rfl) hg (ok_one (by kernel_rfl) rfl (okWide_bool_mk Try.underlying4 _))⟩
  have hall := (trodAll_cons_mk (arg_same (sp := sp) laid (by kernel_rfl) (of_decide_eq_true (by kernel_rfl)) h0 hg (by intro x hx; simp_all) hlt hsp) (trodAll_cons_mk (arg_same (sp := sp) laid (by kernel_rfl) (of_decide_eq_true (by kernel_rfl)) h1 hg (by intro x hx; simp_all) hlt hsp) (trodAll_cons_mk (arg_same (sp := sp) laid (by kernel_rfl) (of_decide_eq_true (by kernel_rfl)) h2 hg (by intro x hx; simp_all) hlt hsp) trodAll_mk0)))
  try simp only [List.append_nil] at hall
  try simp only [List.nil_append] at hall
  exact hall

theorem over (P : Prg) : Rows.replayTombRow.holds Try.pinned (OpenSpec.ofChange Rows.replayTombSpec) :=
  OpenClaim.holds_of_wide 8 Try.f8 rfl rfl rfl rfl rfl rfl rfl ⟨rfl, rfl, rfl, rfl, rfl⟩ rfl rfl rfl rfl rfl (by kernel_rfl) Try.func8 (by kernel_rfl)
    (of_decide_eq_true (by kernel_rfl)) (by unfold Func.isWrapper; first | (rw [if_pos (by decide +kernel)]; kernel_rfl) | (rw [if_neg (by decide +kernel)]; exact ⟨rfl, rfl⟩))
    (fun os started H enc _ => lifted P os started H enc)

end Go.Proofs.Ytckakkocblkcoaa.replayTomb
