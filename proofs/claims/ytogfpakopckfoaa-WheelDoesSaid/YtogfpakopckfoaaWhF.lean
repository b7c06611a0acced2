/- One call at both wheels, by what the program's must do. -/
import Derived.Test.YtogfpakopckfoaaWhK
import Derived.Deep.CutBlock
namespace Go.Proofs.Ytogfpakopckfoaa.Wl
open Go.RowKit Go.Lib
open Sp
set_option linter.unusedVariables false
set_option maxRecDepth 100000

theorem good_len_set {s : Wh} (i : ByteArray) (d : Int) : (setW s i d).l.length ≤ s.l.length + 1 := by
  show (ins _ _).length ≤ _
  rw [ins_len]
  have : (rem s.l i.toList).length ≤ s.l.length := List.length_filter_le _ _
  omega
def Nx (s s' : Wh) : Prop := Wl.Good s' ∧ s'.l.length ≤ s.l.length + 1
set_option maxHeartbeats 64000000 in
theorem do_any {WI : Nat → Wh → Sp.Item} (P : Prg WI) {W w : World} {g b : Nat} {s : Wh} (h : Sp.Sep W w [WI g s, refI b s]) (hg : Wl.Good s) (hn : s.l.length < 190) (K T : Int) (id : ByteArray) (af : Bool) (hid : id.size ≤ maxLen) (hT : 0 ≤ T ∧ T < 18446744073709551616) :
    Calls Try.prog 11 #[.pointer (some ⟨g, 0, none⟩), .pointer (some ⟨b, 0, none⟩), .agg #[.int .i64 K, .string id, .int .u64 T, .bool af]] w fun e w' => e = .returned (.int .i64 1) ∧ ∃ s', Nx s s' ∧ Sp.Sep W w' [WI g s', refI b s'] := by
  have HP := Lib.hid P
  have HG := Lib.hid hg
  have HN := Lib.hid hn
  have HT := Lib.hid hT
  have S0 := loc_alloc h 32 #[.int .i64 K, .string id, .int .u64 T, .bool af]
  unfold maxLen at hid
  obtain ⟨i2, ei2⟩ : ∃ z, id.extract 0 (min (id.size : Int) 20).toNat = z := ⟨_, rfl⟩
  have HI2 : Hid (i2.size ≤ 1000) := Lib.hid (by
    rw [← ei2, ByteArray.size_extract]
    omega)
  have E1 := Lib.hid ei2
  clear P hg hn hT h ei2
  go_enter Try.func11, Try.ntmps11
  go_upto_region 1 with fail
  change Code.wp _ _ _ _ (w.alloc (.cells #[.int .i64 K, .string id, .int .u64 T, .bool af] 32))
  have HS0 := Lib.hid S0
  clear S0
  generalize w.alloc (.cells #[.int .i64 K, .string id, .int .u64 T, .bool af] 32) = w1 at *
  obtain ⟨bo, ebo⟩ : ∃ z, w.heap.size = z := ⟨_, rfl⟩
  rw [ebo] at HS0 ⊢
  clear ebo
  have bk := loc_blk HS0.out (k := 2) rfl
  have x1 : w1.cell? ⟨bo, 1, none⟩ = some (.string id) := bk.cell 1
  have x2 : w1.cell? ⟨bo, 2, none⟩ = some (.int .u64 T) := bk.cell 2
  have HSN : Hid (∀ q, Sp.Sep W (w1.drewN q) [WI g s, refI b s, locI [(bo, 32, #[.int .i64 K, .string id, .int .u64 T, .bool af])]]) := Lib.hid (fun q => HS0.out.later (below_drewN (Below.refl _ _) q))
  clear bk
  go_quiet (fail)
  rw [E1.out]
  clear x1 x2
  have HS1 := Lib.hid (HSN.out nq)
  generalize w1.drewN nq = w2 at *
  clear HSN HS0
  have bk := loc_blk HS1.out (k := 2) rfl
  have x3 : w2.cell? ⟨bo, 3, none⟩ = some (.bool af) := bk.cell 3
  clear bk
  go_upto_if 25 with fail
  go_cut [8] from 26 to 33 (fun s8 wx => ∃ (tt : Int), s8 = .int .u64 tt ∧ Hid (0 ≤ tt ∧ tt < 18446744073709551616) ∧ Hid (Sp.Sep W wx [WI g s, refI b s, locI [(bo, 32, #[.int .i64 K, .string id, .int .u64 T, .bool af])]]))
  case first =>
    have bk := loc_blk HS1.out (k := 2) rfl
    cases af with
    | false =>
      clear bk
      go_wp2_with fail
      go_meet
      exact ⟨T, rfl, HT, HS1⟩
    | true =>
      have x2 : w2.cell? ⟨bo, 2, none⟩ = some (.int .u64 T) := bk.cell 2
      obtain ⟨A, n, p, hB, _, _⟩ := ref_at HS1.out (k := 1) rfl
      have x0 : w2.cell? ⟨b, 0, none⟩ = some (.int .u64 s.t) := hB.cell 0
      have HSN : Hid (∀ q, Sp.Sep W (w2.drewN q) [WI g s, refI b s, locI [(bo, 32, #[.int .i64 K, .string id, .int .u64 T, .bool true])]]) := Lib.hid (fun q => HS1.out.later (below_drewN (Below.refl _ _) q))
      clear bk hB
      go_upto_region 3 with fail
      go_quiet (fail)
      go_wp2_with fail
      go_meet
      exact ⟨_, rfl, Lib.hid (by rw [IntKind.wrap_u64]; omega), Lib.hid (HSN.out _)⟩
  case rest =>
    obtain ⟨tt, rfl, HTT, HS2⟩ := hcut
    clear x3 HS1
    obtain ⟨kk, ekk⟩ : ∃ z, bits .and .i64 K 3 = z := ⟨_, rfl⟩
    have hkk : bits .and .i64 K 3 = kk := ekk
    have x0 : wc.cell? ⟨bo, 0, none⟩ = some (.int .i64 K) := (loc_blk HS2.out (k := 2) rfl).cell 0
    go_upto_block 0 with fail
    clear x0 hkk ekk
    go_cut [] from 37 to 66 (fun wx => ∃ s', Nx s s' ∧ Hid (Sp.Sep W wx [WI g s', refI b s', locI [(bo, 32, #[.int .i64 K, .string id, .int .u64 T, .bool af])]]))
    case first =>
      by_cases hk0 : kk = 2
      · have q0 : (kk == 0) = false := by rw [hk0]; rfl
        have q1 : (kk == 1) = false := by rw [hk0]; rfl
        have q2 : (kk == 2) = true := by rw [hk0]; rfl
        have HF := Lib.hid (rfl : (find s.l i2.toList).isSome = (find s.l i2.toList).isSome)
        obtain ⟨was, hwas⟩ : ∃ z, (find s.l i2.toList).isSome = z := ⟨_, rfl⟩
        have HW := Lib.hid hwas
        have qw : (was != was) = false := by cases was <;> rfl
        clear hk0 hwas HF
        go_wp2_with fail
        refine (HP.out.cn i2 HS2.out (k := 0) rfl HG.out HI2.out).mono ?_
        rintro e' w3 ⟨he, s3⟩
        rw [HW.out] at he
        subst he
        have S3 : Hid (Sp.Sep W w3 [WI g (canW s i2), refI b s, locI [(bo, 32, #[.int .i64 K, .string id, .int .u64 T, .bool af])]]) := Lib.hid s3
        clear s3 HS2
        go_wp2_with fail
        refine (rcan_s S3.out (k := 1) rfl HG.out.ok (by have := HN.out; omega) i2).mono ?_
        rintro e' w4 ⟨he, s4⟩
        rw [HW.out] at he
        subst he
        have S4 : Hid (Sp.Sep W w4 [WI g (canW s i2), refI b (canW s i2), locI [(bo, 32, #[.int .i64 K, .string id, .int .u64 T, .bool af])]]) := Lib.hid s4
        clear s4 S3
        go_wp2_with fail
        go_meet
        exact ⟨_, ⟨HG.out.can i2, by have : (canW s i2).l.length ≤ s.l.length := List.length_filter_le _ _; omega⟩, S4⟩
      · by_cases hk1 : kk = 0 ∨ kk = 1
        · have q2 : (kk == 2) = false := by simpa using hk0
          obtain ⟨was, hwas⟩ : ∃ z, (find s.l i2.toList).isSome = z := ⟨_, rfl⟩
          have HW := Lib.hid hwas
          have qw : (was != was) = false := by cases was <;> rfl
          clear hk0 hwas
          rcases hk1 with hk1 | hk1
          · have q0 : (kk == 0) = true := by rw [hk1]; rfl
            clear hk1
            go_wp2_with fail
            refine (HP.out.st i2 tt HS2.out (k := 0) rfl HG.out (by have := HN.out; omega) HTT.out HI2.out).mono ?_
            rintro e' w3 ⟨he, s3⟩
            rw [HW.out] at he
            subst he
            have S3 : Hid (Sp.Sep W w3 [WI g (setW s i2 tt), refI b s, locI [(bo, 32, #[.int .i64 K, .string id, .int .u64 T, .bool af])]]) := Lib.hid s3
            clear s3 HS2
            go_wp2_with fail
            refine (rset_s S3.out (k := 1) rfl HG.out.ok (by have := HN.out; omega) i2 tt).mono ?_
            rintro e' w4 ⟨he, s4⟩
            rw [HW.out] at he
            subst he
            have S4 : Hid (Sp.Sep W w4 [WI g (setW s i2 tt), refI b (setW s i2 tt), locI [(bo, 32, #[.int .i64 K, .string id, .int .u64 T, .bool af])]]) := Lib.hid s4
            clear s4 S3
            go_wp2_with fail
            go_meet
            exact ⟨_, ⟨HG.out.set HTT.out HI2.out (by have := HN.out; omega), good_len_set _ _⟩, S4⟩
          · have q0 : (kk == 0) = false := by rw [hk1]; rfl
            have q1 : (kk == 1) = true := by rw [hk1]; rfl
            clear hk1
            go_wp2_with fail
            refine (HP.out.st i2 tt HS2.out (k := 0) rfl HG.out (by have := HN.out; omega) HTT.out HI2.out).mono ?_
            rintro e' w3 ⟨he, s3⟩
            rw [HW.out] at he
            subst he
            have S3 : Hid (Sp.Sep W w3 [WI g (setW s i2 tt), refI b s, locI [(bo, 32, #[.int .i64 K, .string id, .int .u64 T, .bool af])]]) := Lib.hid s3
            clear s3 HS2
            go_wp2_with fail
            refine (rset_s S3.out (k := 1) rfl HG.out.ok (by have := HN.out; omega) i2 tt).mono ?_
            rintro e' w4 ⟨he, s4⟩
            rw [HW.out] at he
            subst he
            have S4 : Hid (Sp.Sep W w4 [WI g (setW s i2 tt), refI b (setW s i2 tt), locI [(bo, 32, #[.int .i64 K, .string id, .int .u64 T, .bool af])]]) := Lib.hid s4
            clear s4 S3
            go_wp2_with fail
            go_meet
            exact ⟨_, ⟨HG.out.set HTT.out HI2.out (by have := HN.out; omega), good_len_set _ _⟩, S4⟩
        · have q0 : (kk == 0) = false := by simpa using fun h => hk1 (.inl h)
          have q1 : (kk == 1) = false := by simpa using fun h => hk1 (.inr h)
          have q2 : (kk == 2) = false := by simpa using hk0
          clear hk0 hk1
          go_wp2_with fail
          refine (HP.out.ad tt HS2.out (k := 0) rfl HG.out HTT.out).mono ?_
          rintro e' w3 ⟨A3, p3, rfl, s3⟩
          obtain ⟨D, hD⟩ : ∃ z, dueL s.l (max s.t tt) = z := ⟨_, rfl⟩
          have HDL := Lib.hid (show D.length ≤ 200 by rw [← hD]; exact Nat.le_trans (List.length_filter_le _ _) HG.out.n)
          rw [hD] at s3
          have HD := Lib.hid hD
          rw [hD]
          clear hD
          have S3 : Hid (Sp.Sep W w3 [WI g (advW s tt), refI b s, locI [(bo, 32, #[.int .i64 K, .string id, .int .u64 T, .bool af])], trI A3 D.length D]) := Lib.hid s3
          clear s3 HS2
          obtain ⟨dn, hdn⟩ : ∃ z, D.length = z := ⟨_, rfl⟩
          rw [hdn] at S3 HDL ⊢
          have HDN := Lib.hid hdn
          clear hdn
          go_wp2_with fail
          refine (timers_new (tr_at S3.out (k := 3) rfl) (by have := HDL.out; omega)).mono ?_
          rintro e' w4 ⟨A4, p4, rfl, r4, hb4, hf4⟩
          have S4 : Hid (Sp.Sep W w4 [WI g (advW s tt), refI b s, locI [(bo, 32, #[.int .i64 K, .string id, .int .u64 T, .bool af])], trI A3 dn D, trI A4 dn D]) := Lib.hid (tr_new S3.out r4 hf4 hb4)
          clear r4 hb4 hf4 S3
          go_wp2_with fail
          refine (radv_s S4.out (k := 1) rfl HG.out.ok HG.out.n tt).mono ?_
          rintro e' w5 ⟨g5, q5, p5, rfl, r5, s5⟩
          rw [HD.out] at r5
          obtain rfl : q5 = dn := by rw [r5.len, HDN.out]
          have S5 : Hid (Sp.Sep W w5 [WI g (advW s tt), refI b (advW s tt), locI [(bo, 32, #[.int .i64 K, .string id, .int .u64 T, .bool af])], trI A3 q5 D, trI A4 q5 D]) := Lib.hid s5
          have HQ := Lib.hid (fun p q => same_yes (p := p) (q := q) (tr_at S5.out (k := 4) rfl) r5 (by have := HDL.out; omega))
          clear s5 r5 S4
          go_wp2_with fail
          refine (HQ.out _ _).mono ?_
          rintro e' w6 ⟨rfl, hb6⟩
          have S6 : Hid (Sp.Sep W w6 [WI g (advW s tt), refI b (advW s tt), locI [(bo, 32, #[.int .i64 K, .string id, .int .u64 T, .bool af])]]) := Lib.hid (sep_pick (S5.out.later hb6) [0, 1, 2] (by decide) rfl)
          clear hb6 HQ S5
          go_wp2_with fail
          go_meet
          exact ⟨_, ⟨HG.out.adv HTT.out, by have : (advW s tt).l.length ≤ s.l.length := List.length_filter_le _ _; omega⟩, S6⟩
    case rest =>
      obtain ⟨s', hnx, HS3⟩ := hcut
      have HGS := Lib.hid hnx.1
      have HNX := Lib.hid hnx
      clear HS2 hnx
      have HFD := Lib.hid (HP.out.fd i2 HS3.out (k := 0) rfl HGS.out HI2.out)
      obtain ⟨tm, htm⟩ : ∃ z, s'.t = z := ⟨_, rfl⟩
      have HTM := Lib.hid htm
      clear htm
      rcases idx_cases HGS.out.ok i2.toList with ⟨e1, e2⟩ | ⟨j, t, e1, e2, e3, e4⟩
      · rw [e2] at HFD
        have HE1 := Lib.hid e1
        clear e1 e2
        go_wp2_with fail
        refine HFD.out.mono ?_
        rintro e' w3 ⟨rfl, hb3⟩
        have S3 := Lib.hid (HS3.out.later hb3)
        clear hb3 HS3 HFD
        obtain ⟨A, n, p, hB, hR, hnp⟩ := ref_at S3.out (k := 1) rfl
        rw [HTM.out] at hB
        have HB := Lib.hid hB
        have HR := Lib.hid hR
        have HLE : Hid (s'.l.length = n) := Lib.hid hR.len.symm
        have HIX := Lib.hid (fun (_ : Unit) => rfind_any (p := p) i2 hB hR (by have h3 := HGS.out.n; have h4 := hR.len; omega))
        rw [HE1.out] at HIX
        clear hB hR hnp
        go_wp2_with fail
        refine (HIX.out ()).mono ?_
        rintro e' w4 ⟨rfl, rfl⟩
        have I : Below w4.heap.size w4 { w4 with drawn := w4.drawn + 1 } := (Below.refl _ _).drew
        have hne : Nonempty (In (fun W => Below w4.heap.size w4 W)) := ⟨⟨_, I⟩⟩
        have f0 : ∀ jj : In (fun W => Below w4.heap.size w4 W), jj.W.cell? ⟨b, 0, none⟩ = some (.int .u64 tm) := fun jj => (HB.out.later jj.h).cell 0
        have f1 : ∀ jj : In (fun W => Below w4.heap.size w4 W), jj.W.cell? ⟨b, 1, none⟩ = some (.slice A n p) := fun jj => (HB.out.later jj.h).cell 1
        have HNO := Lib.hid (fun (W1 : World) (hi : Below w4.heap.size w4 W1) => HP.out.no (S3.out.later hi) (k := 0) rfl HGS.out)
        have HLN := Lib.hid (fun (W1 : World) (hi : Below w4.heap.size w4 W1) => HP.out.ln (S3.out.later hi) (k := 0) rfl HGS.out)
        simp only [HTM.out] at HNO
        simp only [HLE.out] at HLN
        have qt : ((tm : Int) != tm) = false := by simp
        have ql : (((n : Nat) : Int) != ((n : Nat) : Int)) = false := by simp
        go_upto_region 16 with fail
        refine region_class (fun W => Below w4.heap.size w4 W) (by kernel_rfl) (by kernel_rfl) I ?_
        repeat (go_big_quiet_step (first
          | (go_at_call 18; with_reducible exact class_call _ (fun hi => (HNO.out _ hi).mono fun e w' ⟨he, hb⟩ => ⟨he, hi.trans (hb.mono hi.size)⟩))
          | (go_at_call 20; with_reducible exact class_call _ (fun hi => (HLN.out _ hi).mono fun e w' ⟨he, hb⟩ => ⟨he, hi.trans (hb.mono hi.size)⟩))))
        refine wpQuiet_nil ?_
        rintro _ ⟨jj, rfl⟩
        have S5 := Lib.hid (S3.out.later jj.h)
        have HB5 := Lib.hid (HB.out.later jj.h)
        have HR5 := Lib.hid (HR.out.later jj.h)
        clear I hne f0 f1 HNO HLN qt ql HB HR S3
        generalize jj.W = w5 at *
        clear jj
        obtain ⟨c, hc⟩ : ∃ z, cnI s'.t s'.l = z := ⟨_, rfl⟩
        have HV := HP.out.lv S5.out (k := 0) rfl HGS.out
        rw [hc] at HV
        have HLV := Lib.hid HV
        have HCC := Lib.hid hc
        clear HV hc
        go_wp2_with fail
        refine HLV.out.mono ?_
        rintro e' w6 ⟨he, hb6⟩
        replace he : e' = .returned (.agg #[.int .i64 (c 0), .int .i64 (c 1), .int .i64 (c 2), .int .i64 (c 3), .int .i64 (c 4)]) := he
        subst he
        have S6 := Lib.hid (S5.out.later hb6)
        have HRL : Hid (Calls Try.prog 28 #[.pointer (some ⟨b, 0, none⟩)] w6 fun e w' => ∃ g, e = .returned (.slice (some ⟨g, 0, none⟩) 5 5) ∧ w6.heap.size ≤ g ∧ Sp.Blk w' g 3 (csI c) ∧ Below w6.heap.size w6 w') := Lib.hid (by
          have h1 := rlev_any (HB5.out.later hb6) (HR5.out.later hb6) (by have h2 := HLE.out; have h3 := HGS.out.n; omega) (by rw [← HTM.out]; exact HGS.out.t) HGS.out.d
          rw [← HTM.out, HCC.out] at h1
          exact h1)
        clear hb6 HLV S5 HB5 HR5
        go_wp2_with fail
        refine HRL.out.mono ?_
        rintro e' w7 ⟨gl, rfl, _, hbl, hb7⟩
        have HBL := Lib.hid hbl
        have S7 := Lib.hid (loc_alloc (S6.out.later hb7) 48 #[.int .i64 (c 0), .int .i64 (c 1), .int .i64 (c 2), .int .i64 (c 3), .int .i64 (c 4)])
        have HBL2 := Lib.hid (hbl.later (below1 w7 (.cells #[.int .i64 (c 0), .int .i64 (c 1), .int .i64 (c 2), .int .i64 (c 3), .int .i64 (c 4)] 48)))
        clear hbl hb7 HBL S6 HRL
        go_upto_region 19 with fail
        change Code.wp _ _ _ _ (w7.alloc (.cells #[.int .i64 (c 0), .int .i64 (c 1), .int .i64 (c 2), .int .i64 (c 3), .int .i64 (c 4)] 48))
        generalize w7.alloc (.cells #[.int .i64 (c 0), .int .i64 (c 1), .int .i64 (c 2), .int .i64 (c 3), .int .i64 (c 4)] 48) = w8 at *
        obtain ⟨bv, ebv⟩ : ∃ z, w7.heap.size = z := ⟨_, rfl⟩
        rw [ebv] at S7 ⊢
        clear ebv
        go_upto_region 20 with fail
        go_loopg [14] 5 (fun gk s14 wr => ∃ (q : Nat), q ≤ 5 ∧ gk = 5 - q ∧ s14 = .int .i64 (q : Nat) ∧ Hid (Below w8.heap.size w8 wr))
        case atStart => exact ⟨0, by omega, rfl, rfl, Lib.hid (Below.refl _ _)⟩
        case round =>
          obtain ⟨q, hq, hgk, rfl, HW⟩ := hrel
          have HGK := Lib.hid hgk
          clear hgk
          by_cases hlt : q < 5
          · have hli : (q : Int) < 5 := by omega
            have wi : IntKind.i64.wrap ((q : Int) + 1) = (q : Int) + 1 := IntWalk.i64_in _ (by omega)
            have y0 : wr.cell? ⟨bv, q, none⟩ = some (.int .i64 (c q)) := ((loc_blk (S7.out.later HW.out) (k := 3) rfl).cell q).trans (csI_get c hlt)
            have y1 : wr.cell? ⟨gl, q, none⟩ = some (.int .i64 (c q)) := ((HBL2.out.later HW.out).cell q).trans (csI_get c hlt)
            have qc : (c q != c q) = false := by simp
            have HBN : Hid (∀ z, Below w8.heap.size w8 (wr.drewN z)) := Lib.hid (fun z => below_drewN HW.out z)
            go_upto_region 22 with fail
            go_quiet (fail)
            clear y0 y1 qc
            go_wp2_with fail
            go_roundg (5 - (q + 1))
            case measure => have := HGK.out; omega
            case rel => exact ⟨q + 1, by omega, by have := HGK.out; omega, by go_num, Lib.hid (HBN.out _)⟩
          · obtain rfl : q = 5 := by omega
            have SF := Lib.hid (sep_pick (S7.out.later HW.out) [0, 1] (by decide) (items' := [WI g s', refI b s']) rfl)
            go_wp2_with fail
            go_ret
            exact ⟨rfl, s', HNX.out, SF.out⟩
      · rw [e4] at HFD
        have HE1 := Lib.hid e1
        have HE2 := Lib.hid e2
        clear e1 e2 e3 e4
        go_wp2_with fail
        refine HFD.out.mono ?_
        rintro e' w3 ⟨rfl, hb3⟩
        have S3 := Lib.hid (HS3.out.later hb3)
        clear hb3 HS3 HFD
        obtain ⟨A, n, p, hB, hR, hnp⟩ := ref_at S3.out (k := 1) rfl
        rw [HTM.out] at hB
        have HB := Lib.hid hB
        have HR := Lib.hid hR
        have HLE : Hid (s'.l.length = n) := Lib.hid hR.len.symm
        have HIX := Lib.hid (fun (_ : Unit) => rfind_any (p := p) i2 hB hR (by have h3 := HGS.out.n; have h4 := hR.len; omega))
        rw [HE1.out] at HIX
        clear hB hR hnp
        go_wp2_with fail
        refine (HIX.out ()).mono ?_
        rintro e' w4 ⟨rfl, rfl⟩
        have I : Below w4.heap.size w4 { w4 with drawn := w4.drawn + 1 } := (Below.refl _ _).drew
        have hne : Nonempty (In (fun W => Below w4.heap.size w4 W)) := ⟨⟨_, I⟩⟩
        have f0 : ∀ jj : In (fun W => Below w4.heap.size w4 W), jj.W.cell? ⟨b, 0, none⟩ = some (.int .u64 tm) := fun jj => (HB.out.later jj.h).cell 0
        have f1 : ∀ jj : In (fun W => Below w4.heap.size w4 W), jj.W.cell? ⟨b, 1, none⟩ = some (.slice A n p) := fun jj => (HB.out.later jj.h).cell 1
        have hjn : j < n := by have h1 := (List.getElem?_eq_some_iff.1 HE2.out).1; have h2 := HR.out.len; omega
        have hji : (j : Int) < (n : Int) := by omega
        have hj0 : decide ((0 : Int) ≤ (j : Int)) = true := decide_eq_true (by omega)
        have hj1 : (0 : Int) ≤ (j : Int) := by omega
        obtain ⟨g1, o, rfl, hc1⟩ := HR.out.c (by omega)
        have hc2 := (hc1 j t HE2.out).2
        have f5 : ∀ jj : In (fun W => Below w4.heap.size w4 W), jj.W.cell? ⟨g1, o + j * 2 + 1, none⟩ = some (.int .u64 t.d) := fun jj => (jj.h.cell (World.block_lt_of_cell? _ _ hc2)).trans hc2
        have qd : (t.d != t.d) = false := by simp
        have HNO := Lib.hid (fun (W1 : World) (hi : Below w4.heap.size w4 W1) => HP.out.no (S3.out.later hi) (k := 0) rfl HGS.out)
        have HLN := Lib.hid (fun (W1 : World) (hi : Below w4.heap.size w4 W1) => HP.out.ln (S3.out.later hi) (k := 0) rfl HGS.out)
        simp only [HTM.out] at HNO
        simp only [HLE.out] at HLN
        have qt : ((tm : Int) != tm) = false := by simp
        have ql : (((n : Nat) : Int) != ((n : Nat) : Int)) = false := by simp
        go_upto_region 16 with fail
        refine region_class (fun W => Below w4.heap.size w4 W) (by kernel_rfl) (by kernel_rfl) I ?_
        repeat (go_big_quiet_step (first
          | (go_at_call 18; with_reducible exact class_call _ (fun hi => (HNO.out _ hi).mono fun e w' ⟨he, hb⟩ => ⟨he, hi.trans (hb.mono hi.size)⟩))
          | (go_at_call 20; with_reducible exact class_call _ (fun hi => (HLN.out _ hi).mono fun e w' ⟨he, hb⟩ => ⟨he, hi.trans (hb.mono hi.size)⟩))))
        refine wpQuiet_nil ?_
        rintro _ ⟨jj, rfl⟩
        have S5 := Lib.hid (S3.out.later jj.h)
        have HB5 := Lib.hid (HB.out.later jj.h)
        have HR5 := Lib.hid (HR.out.later jj.h)
        clear I hne f0 f1 f5 hc1 hc2 qd hj0 hj1 hji hjn HNO HLN qt ql HB HR S3
        generalize jj.W = w5 at *
        clear jj
        obtain ⟨c, hc⟩ : ∃ z, cnI s'.t s'.l = z := ⟨_, rfl⟩
        have HV := HP.out.lv S5.out (k := 0) rfl HGS.out
        rw [hc] at HV
        have HLV := Lib.hid HV
        have HCC := Lib.hid hc
        clear HV hc
        go_wp2_with fail
        refine HLV.out.mono ?_
        rintro e' w6 ⟨he, hb6⟩
        replace he : e' = .returned (.agg #[.int .i64 (c 0), .int .i64 (c 1), .int .i64 (c 2), .int .i64 (c 3), .int .i64 (c 4)]) := he
        subst he
        have S6 := Lib.hid (S5.out.later hb6)
        have HRL : Hid (Calls Try.prog 28 #[.pointer (some ⟨b, 0, none⟩)] w6 fun e w' => ∃ g, e = .returned (.slice (some ⟨g, 0, none⟩) 5 5) ∧ w6.heap.size ≤ g ∧ Sp.Blk w' g 3 (csI c) ∧ Below w6.heap.size w6 w') := Lib.hid (by
          have h1 := rlev_any (HB5.out.later hb6) (HR5.out.later hb6) (by have h2 := HLE.out; have h3 := HGS.out.n; omega) (by rw [← HTM.out]; exact HGS.out.t) HGS.out.d
          rw [← HTM.out, HCC.out] at h1
          exact h1)
        clear hb6 HLV S5 HB5 HR5
        go_wp2_with fail
        refine HRL.out.mono ?_
        rintro e' w7 ⟨gl, rfl, _, hbl, hb7⟩
        have HBL := Lib.hid hbl
        have S7 := Lib.hid (loc_alloc (S6.out.later hb7) 48 #[.int .i64 (c 0), .int .i64 (c 1), .int .i64 (c 2), .int .i64 (c 3), .int .i64 (c 4)])
        have HBL2 := Lib.hid (hbl.later (below1 w7 (.cells #[.int .i64 (c 0), .int .i64 (c 1), .int .i64 (c 2), .int .i64 (c 3), .int .i64 (c 4)] 48)))
        clear hbl hb7 HBL S6 HRL
        go_upto_region 19 with fail
        change Code.wp _ _ _ _ (w7.alloc (.cells #[.int .i64 (c 0), .int .i64 (c 1), .int .i64 (c 2), .int .i64 (c 3), .int .i64 (c 4)] 48))
        generalize w7.alloc (.cells #[.int .i64 (c 0), .int .i64 (c 1), .int .i64 (c 2), .int .i64 (c 3), .int .i64 (c 4)] 48) = w8 at *
        obtain ⟨bv, ebv⟩ : ∃ z, w7.heap.size = z := ⟨_, rfl⟩
        rw [ebv] at S7 ⊢
        clear ebv
        go_upto_region 20 with fail
        go_loopg [14] 5 (fun gk s14 wr => ∃ (q : Nat), q ≤ 5 ∧ gk = 5 - q ∧ s14 = .int .i64 (q : Nat) ∧ Hid (Below w8.heap.size w8 wr))
        case atStart => exact ⟨0, by omega, rfl, rfl, Lib.hid (Below.refl _ _)⟩
        case round =>
          obtain ⟨q, hq, hgk, rfl, HW⟩ := hrel
          have HGK := Lib.hid hgk
          clear hgk
          by_cases hlt : q < 5
          · have hli : (q : Int) < 5 := by omega
            have wi : IntKind.i64.wrap ((q : Int) + 1) = (q : Int) + 1 := IntWalk.i64_in _ (by omega)
            have y0 : wr.cell? ⟨bv, q, none⟩ = some (.int .i64 (c q)) := ((loc_blk (S7.out.later HW.out) (k := 3) rfl).cell q).trans (csI_get c hlt)
            have y1 : wr.cell? ⟨gl, q, none⟩ = some (.int .i64 (c q)) := ((HBL2.out.later HW.out).cell q).trans (csI_get c hlt)
            have qc : (c q != c q) = false := by simp
            have HBN : Hid (∀ z, Below w8.heap.size w8 (wr.drewN z)) := Lib.hid (fun z => below_drewN HW.out z)
            go_upto_region 22 with fail
            go_quiet (fail)
            clear y0 y1 qc
            go_wp2_with fail
            go_roundg (5 - (q + 1))
            case measure => have := HGK.out; omega
            case rel => exact ⟨q + 1, by omega, by have := HGK.out; omega, by go_num, Lib.hid (HBN.out _)⟩
          · obtain rfl : q = 5 := by omega
            have SF := Lib.hid (sep_pick (S7.out.later HW.out) [0, 1] (by decide) (items' := [WI g s', refI b s']) rfl)
            go_wp2_with fail
            go_ret
            exact ⟨rfl, s', HNX.out, SF.out⟩
end Go.Proofs.Ytogfpakopckfoaa.Wl
