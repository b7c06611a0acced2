/- For every list of records, and numbers, the statement ReplayLess about replay returns true, and changes nothing. Conditions: none. -/
import Derived.Test.YtckakkocblkcoaaReR
import Derived.ProofKit
import Derived.OpenShut
import Derived.ShutString
import Derived.SizedLaws
namespace Go.Proofs.Ytckakkocblkcoaa.replayLess
open Go.ChangeShapes Go.WideShapes Go.ChangeAt Go.RowKit Go.Lib Go.MapKept
open Go.ChangeMaps (open_string shut_string)
set_option linter.unusedVariables false

theorem own : ownKnob Try.prog.godebug = none := by kernel_rfl
theorem laid : laidOutB Try.prog = true := by kernel_rfl

set_option maxRecDepth 100000
open Re Sp
theorem cut_cap {w : World} {A : Option Addr} {n : Nat} (p : Nat) {L : List Rec} (h : RR w A n L) (hn : n ≤ maxLen) (m : Nat) (hm : m ≤ 500) (hf : Fine L) :
    Calls Try.prog 9 #[.slice A n p, .int .i64 (m : Int)] w fun e w' => ∃ g' p', e = .returned (.slice (some ⟨g', 0, none⟩) (min m n) p') ∧ RR w' (some ⟨g', 0, none⟩) (min m n) (cutL L m) ∧ min m n ≤ p' ∧ Below w.heap.size w w' :=
  (cutl_any h hn m hm (fun r hr => ⟨(hf r hr).i, (hf r hr).a⟩)).mono fun e w' ⟨g', p', he, hs⟩ => ⟨g', p', he, RR.of_row hs (k := 0) rfl (by rw [cutL_len, h.len]), (row_cap hs (k := 0) rfl).1, hs.below⟩
theorem RR.drop {w : World} {g o n : Nat} {L : List Rec} (h : RR w (some ⟨g, o, none⟩) n L) (m : Nat) (hm : m ≤ n) : RR w (some ⟨g, o + m * 7, none⟩) (n - m) (L.drop m) :=
  ⟨by rw [List.length_drop, ← h.len], fun h0 => by
    obtain ⟨g', o', e, hc⟩ := h.c (by omega)
    injection e with e
    injection e with e1 e2 _
    subst e1 e2
    exact ⟨g, o + m * 7, rfl, fun i j r hi hj => by
      have := hc (m + i) j r (by rw [List.getElem?_drop] at hi; exact hi) hj
      rw [← this]
      congr 2
      rw [Nat.add_mul]
      omega⟩⟩
theorem new_new (C : List Rec) : newest (newest C) = newest C := newest_ext fun x => best_newest C x
theorem twice_eq (C : List Rec) : newest (C ++ newest C) = newest C := newest_ext fun x => by rw [best_append, best_newest, join_self]
/-- Is it the newest one of its id, or as new? -/
def freshB (N : List Rec) (r : Rec) (j : Nat) : Bool := (N.take j).any fun b => decide (b.key = r.key) && decide (b.v = r.v)
theorem fresh_next {N : List Rec} {r b : Rec} {j : Nat} (h : N[j]? = some b) : freshB N r (j + 1) = (freshB N r j || (decide (b.key = r.key) && decide (b.v = r.v))) := by
  unfold freshB
  rw [take_one h, List.any_append]
  simp
theorem less_eq {C : List Rec} {k : Nat} {r : Rec} (hk : C[k]? = some r) (h : freshB (newest C) r (newest C).length = false) : newest (C.take k ++ C.drop (k + 1)) = newest C := by
  refine newest_ext fun x => ?_
  have e := split_at hk
  have h0 : best C x = joinR (best (C.take k) x) (joinR (one x r) (best (C.drop (k + 1)) x)) := by
    conv => lhs; rw [e]
    rw [best_append, best_cons]
  rw [best_append]
  cases ho : one x r with
  | none => rw [h0, ho, join_none]
  | some q =>
    obtain ⟨rfl, hl, hx⟩ := one_some ho
    rw [ho] at h0
    cases hb : best C x with
    | none =>
      rw [hb] at h0
      have := (join_is_none.1 h0.symm).2
      have := (join_is_none.1 this).1
      cases this
    | some b =>
      have hge := best_ge hb q (List.mem_of_getElem? hk) hl hx
      have hne : b.v ≠ q.v := fun e2 => by
        have hlk := newest_look C x
        rw [hb] at hlk
        obtain ⟨m1, m2⟩ := look_mem hlk
        have : freshB (newest C) q (newest C).length = true := by
          unfold freshB
          rw [List.take_length]
          exact List.any_eq_true.2 ⟨b, m1, by simp [m2, hx, e2]⟩
        rw [h] at this
        cases this
      rw [hb] at h0
      cases hD : best (C.drop (k + 1)) x with
      | none =>
        rw [hD] at h0
        have h1 : joinR (best (C.take k) x) (some q) = some b := h0.symm
        cases hT : best (C.take k) x with
        | none =>
          rw [hT, join_none] at h1
          injection h1 with h1
          exact absurd (by rw [h1]) hne
        | some t =>
          rw [hT, join_two] at h1
          split at h1
          · injection h1 with h1
            exact absurd (by rw [h1]) hne
          · exact h1
      | some d =>
        rw [hD, join_two] at h0
        by_cases hqd : q.v ≤ d.v
        · rw [if_pos hqd] at h0
          exact h0.symm
        · rw [if_neg hqd] at h0
          cases hT : best (C.take k) x with
          | none =>
            rw [hT, join_none] at h0
            injection h0 with h0
            exact absurd (by rw [h0]) hne
          | some t =>
            rw [hT, join_two] at h0
            split at h0
            · injection h0 with h0
              exact absurd (by rw [h0]) hne
            · injection h0 with h0
              subst h0
              rw [join_two, if_neg (by omega)]
set_option maxHeartbeats 32000000 in
theorem walk (P : Prg) (A : Option Addr) (n p : Nat) (L : List Rec) (a8 now : Int) (w : World) (hL : RR w A n L) (hn : n ≤ maxLen) (hf : Fine L) (h8 : 0 ≤ a8 ∧ a8 ≤ 255) (h1 : 0 ≤ now ∧ now < 18446744073709551616) :
    Calls Try.prog 5 #[.slice A n p, .int .u8 a8, .int .u64 now] w fun e w' => e = .returned (.bool true) ∧ Below w.heap.size w w' := by
  have HC : Hid (Calls Try.prog 9 #[.slice A n p, .int .i64 40] w fun e w' => ∃ g' p', e = .returned (.slice (some ⟨g', 0, none⟩) (min 40 n) p') ∧ RR w' (some ⟨g', 0, none⟩) (min 40 n) (cutL L 40) ∧ min 40 n ≤ p' ∧ Below w.heap.size w w') := Lib.hid (cut_cap p hL hn 40 (by decide) hf)
  have HF := Lib.hid (cut_fine hf 40)
  have HN := Lib.hid (show min 40 n ≤ 40 by omega)
  have HW := Lib.hid h1
  clear hL hn hf h1
  generalize cutL L 40 = C at *
  generalize min 40 n = nc at *
  go_enter Try.func5, Try.ntmps5
  go_wp2_with fail
  refine HC.out.mono ?_
  rintro e' w1 ⟨gc, pc, rfl, hr, hpc, hb⟩
  have hC := Lib.hid hr
  have BB := Lib.hid hb
  have HPC := Lib.hid hpc
  clear HC hr hb hpc
  have HK := Lib.hid (P.ss pc now hC.out (by have := HN.out; omega) HF.out HW.out)
  go_wp2_with fail
  refine HK.out.mono ?_
  rintro e' wk1 ⟨A1, p1, rfl, hr, hb⟩
  replace hC := Lib.hid (hC.out.later hb)
  replace BB := Lib.hid (BB.out.trans (hb.mono BB.out.size))
  have h1 := Lib.hid hr
  clear HK hb hr
  have HK := Lib.hid (lives_any (p := p1) h1.out (by rw [h1.out.len]; have := sesL_len (newest C) now; have := newest_len C; have := hC.out.len; have := HN.out; omega))
  go_wp2_with fail
  refine HK.out.mono ?_
  rintro e' wk2 ⟨AW, pW, rfl, hr, hb⟩
  replace hC := Lib.hid (hC.out.later hb)
  replace h1 := Lib.hid (h1.out.later hb)
  replace BB := Lib.hid (BB.out.trans (hb.mono BB.out.size))
  have hW := Lib.hid hr
  clear HK hb hr
  clear h1
  have HK := Lib.hid (P.nw pc hC.out (by have := HN.out; omega) HF.out)
  go_wp2_with fail
  refine HK.out.mono ?_
  rintro e' wk3 ⟨AN, pN, rfl, hr, hb⟩
  replace hC := Lib.hid (hC.out.later hb)
  replace hW := Lib.hid (hW.out.later hb)
  replace BB := Lib.hid (BB.out.trans (hb.mono BB.out.size))
  have hN := Lib.hid hr
  clear HK hb hr
  have hS := hW
  clear hW
  obtain ⟨N, eN⟩ : ∃ z, newest C = z := ⟨_, rfl⟩
  have HFN : Hid (Fine N) := Lib.hid (by rw [← eN]; exact newest_fine HF.out)
  have HNN : Hid (newest N = N) := Lib.hid (by rw [← eN]; exact new_new C)
  have HNL : Hid (N.length ≤ nc) := Lib.hid (by rw [← eN, hC.out.len]; exact newest_len C)
  have HEN := Lib.hid eN
  rw [eN] at hN hS ⊢
  clear eN
  obtain ⟨nn, en⟩ : ∃ z, N.length = z := ⟨_, rfl⟩
  have HEL := Lib.hid en
  rw [en] at hN ⊢
  replace HNL : Hid (nn ≤ nc) := Lib.hid (by rw [← en]; exact HNL.out)
  clear en
  have hW := hS
  clear hS
  have HK := Lib.hid (by have h := P.ss pN now hN.out (by have := HN.out; have := HNL.out; omega) HFN.out HW.out; rw [HNN.out] at h; exact h)
  go_wp2_with fail
  refine HK.out.mono ?_
  rintro e' wk4 ⟨A1, p1, rfl, hr, hb⟩
  replace hC := Lib.hid (hC.out.later hb)
  replace hN := Lib.hid (hN.out.later hb)
  replace hW := Lib.hid (hW.out.later hb)
  replace BB := Lib.hid (BB.out.trans (hb.mono BB.out.size))
  have h1 := Lib.hid hr
  clear HK hb hr
  have HK := Lib.hid (lives_any (p := p1) h1.out (by rw [h1.out.len]; have := sesL_len N now; have := HEL.out; have := HNL.out; have := HN.out; omega))
  go_wp2_with fail
  refine HK.out.mono ?_
  rintro e' wk5 ⟨A2, p2, rfl, hr, hb⟩
  replace hC := Lib.hid (hC.out.later hb)
  replace hN := Lib.hid (hN.out.later hb)
  replace hW := Lib.hid (hW.out.later hb)
  replace h1 := Lib.hid (h1.out.later hb)
  replace BB := Lib.hid (BB.out.trans (hb.mono BB.out.size))
  have h2 := Lib.hid hr
  clear HK hb hr
  clear h1
  have HK := Lib.hid (same_yes (p := pW) (q := p2) hW.out h2.out (by rw [hW.out.len]; have := sesL_len N now; have := HEL.out; have := HNL.out; have := HN.out; omega))
  go_wp2_with fail
  refine HK.out.mono ?_
  rintro e' wk6 ⟨rfl, hb⟩
  replace hC := Lib.hid (hC.out.later hb)
  replace hN := Lib.hid (hN.out.later hb)
  replace hW := Lib.hid (hW.out.later hb)
  replace h2 := Lib.hid (h2.out.later hb)
  replace BB := Lib.hid (BB.out.trans (hb.mono BB.out.size))
  clear HK hb
  clear h2
  have HK := Lib.hid (refs_any (p := pN) hN.out (by have := HN.out; have := HNL.out; omega))
  go_wp2_with fail
  refine HK.out.mono ?_
  rintro e' wk7 ⟨A3, p3, rfl, hr, hb⟩
  replace hC := Lib.hid (hC.out.later hb)
  replace hN := Lib.hid (hN.out.later hb)
  replace hW := Lib.hid (hW.out.later hb)
  replace BB := Lib.hid (BB.out.trans (hb.mono BB.out.size))
  have h3 := Lib.hid hr
  clear HK hb hr
  have HK := Lib.hid (by have h := P.nw pN hN.out (by have := HN.out; have := HNL.out; omega) HFN.out; rw [HNN.out, HEL.out] at h; exact h)
  go_wp2_with fail
  refine HK.out.mono ?_
  rintro e' wk8 ⟨A4, p4, rfl, hr, hb⟩
  replace hC := Lib.hid (hC.out.later hb)
  replace hN := Lib.hid (hN.out.later hb)
  replace hW := Lib.hid (hW.out.later hb)
  replace h3 := Lib.hid (h3.out.later hb)
  replace BB := Lib.hid (BB.out.trans (hb.mono BB.out.size))
  have h4 := Lib.hid hr
  clear HK hb hr
  have HK := Lib.hid (refs_any (p := p4) h4.out (by have := HN.out; have := HNL.out; omega))
  go_wp2_with fail
  refine HK.out.mono ?_
  rintro e' wk9 ⟨A5, p5, rfl, hr, hb⟩
  replace hC := Lib.hid (hC.out.later hb)
  replace hN := Lib.hid (hN.out.later hb)
  replace hW := Lib.hid (hW.out.later hb)
  replace h3 := Lib.hid (h3.out.later hb)
  replace h4 := Lib.hid (h4.out.later hb)
  replace BB := Lib.hid (BB.out.trans (hb.mono BB.out.size))
  have h5 := Lib.hid hr
  clear HK hb hr
  clear h4
  have HK := Lib.hid (records_yes (p := p3) (q := p5) h3.out h5.out (by have := HN.out; have := HNL.out; omega))
  go_wp2_with fail
  refine HK.out.mono ?_
  rintro e' wk10 ⟨rfl, hb⟩
  replace hC := Lib.hid (hC.out.later hb)
  replace hN := Lib.hid (hN.out.later hb)
  replace hW := Lib.hid (hW.out.later hb)
  replace h3 := Lib.hid (h3.out.later hb)
  replace h5 := Lib.hid (h5.out.later hb)
  replace BB := Lib.hid (BB.out.trans (hb.mono BB.out.size))
  clear HK hb
  clear h3 h5
  by_cases hz : nc = 0
  · subst hz
    obtain rfl : nn = 0 := by have := HNL.out; omega
    have q0 : ((0 : Int) == 0) = true := rfl
    have HFX := Lib.hid (fixed_any P wk10)
    go_wp2_with fail
    refine HFX.out.mono ?_
    rintro e' we ⟨rfl, hb⟩
    replace BB := Lib.hid (BB.out.trans (hb.mono BB.out.size))
    clear hb
    go_wp2_with fail
    go_ret
    exact ⟨rfl, BB.out⟩
  have q0 : ((nc : Int) == 0) = false := by simpa using hz
  have q1 : ¬ (nc : Int) = 0 := by omega
  have hpos : 0 < nc := by omega
  obtain ⟨k, hk⟩ : ∃ k : Nat, a8 % (nc : Int) = (k : Int) := ⟨(a8 % (nc : Int)).toNat, by have := Int.emod_nonneg a8 (show (nc : Int) ≠ 0 by omega); omega⟩
  have hk2 : a8.tmod (nc : Int) = (k : Int) := by rw [Int.tmod_eq_emod_of_nonneg h8.1]; exact hk
  have hkn : k < nc := by have := Int.emod_lt_of_pos a8 (show (0 : Int) < nc by omega); omega
  have hkni : (k : Int) < (nc : Int) := by omega
  obtain ⟨r, hr⟩ : ∃ r, C[k]? = some r := ⟨_, List.getElem?_eq_getElem (by rw [← hC.out.len]; exact hkn)⟩
  have HRK := Lib.hid hr
  go_upto_region 9 with fail
  clear q0 q1 hk hk2 h8 hr hz
  go_wp2_with fail
  have HB0 := Lib.hid (Below.refl wk10.heap.size wk10)
  go_loopg [10, 11] nn (fun gk s10 s11 wr => ∃ (j : Nat) (f : Bool), j ≤ nn ∧ gk = nn - j ∧ s10 = .bool f ∧ s11 = .int .i64 (j : Nat) ∧ Hid (freshB N r j = f ∧ Below wk10.heap.size wk10 wr))
  case atStart => exact ⟨0, false, by omega, rfl, rfl, rfl, Lib.hid ⟨rfl, Below.refl _ _⟩⟩
  case round =>
    obtain ⟨j, f, hj, hgk, rfl, rfl, HI⟩ := hrel
    have HGK := Lib.hid hgk
    clear hgk HB0
    by_cases hlt : j < nn
    · have hli : (j : Int) < (nn : Int) := by omega
      obtain ⟨q, hq⟩ : ∃ q, N[j]? = some q := ⟨_, List.getElem?_eq_getElem (by rw [HEL.out]; exact hlt)⟩
      obtain ⟨gc', oc, ec, hcc⟩ := hC.out.rc hpos
      injection ec with ec
      injection ec with ec1 ec2 _
      subst ec1 ec2
      obtain ⟨g8, o8, rfl, hcn⟩ := hN.out.rc (by omega)
      have Rq := (hcn j q hq).later HI.out.2
      have Rr := (hcc k r HRK.out).later HI.out.2
      simp only [Nat.zero_add] at Rr
      have y5 := Rq.c5
      have y3 := Rq.c3
      have x5 := Rr.c5
      have x3 := Rr.c3
      have HQ := Lib.hid (fresh_next (r := r) hq)
      have HBN : Hid (∀ q, Below wk10.heap.size wk10 (wr.drewN q)) := Lib.hid (fun q => below_drewN HI.out.2 q)
      obtain ⟨ky, eky⟩ : ∃ z, decide (q.key = r.key) = z := ⟨_, rfl⟩
      have qk : (q.i.toList == r.i.toList) = ky := key_eq.trans eky
      obtain ⟨vy, evy⟩ : ∃ z, decide (q.v = r.v) = z := ⟨_, rfl⟩
      have qv : (q.v == r.v) = vy := by rw [← evy]; by_cases h : q.v = r.v <;> simp [h]
      have HFR := Lib.hid HI.out.1
      have HKV := Lib.hid (And.intro eky evy)
      have wj : IntKind.i64.wrap ((j : Int) + 1) = (j : Int) + 1 := IntWalk.i64_in _ (by have := HN.out; have := HNL.out; omega)
      clear hq Rq Rr eky evy hcc hcn
      go_upto_region 12 with fail
      cases f with
      | true =>
        go_quiet (fail)
        clear x5 x3 y5 y3 qk qv
        go_wp2_with fail
        go_roundg (nn - (j + 1))
        case measure => have := HGK.out; omega
        case rel => exact ⟨j + 1, _, by omega, by have := HGK.out; omega, rfl, by go_num, Lib.hid ⟨by rw [HQ.out, HFR.out, HKV.out.1, HKV.out.2]; simp, HBN.out _⟩⟩
      | false =>
        cases ky with
        | false =>
          go_quiet (fail)
          clear x5 x3 y5 y3 qk qv
          go_wp2_with fail
          go_roundg (nn - (j + 1))
          case measure => have := HGK.out; omega
          case rel => exact ⟨j + 1, _, by omega, by have := HGK.out; omega, rfl, by go_num, Lib.hid ⟨by rw [HQ.out, HFR.out, HKV.out.1, HKV.out.2]; simp, HBN.out _⟩⟩
        | true =>
          go_quiet (fail)
          clear x5 x3 y5 y3 qk qv
          go_wp2_with fail
          go_roundg (nn - (j + 1))
          case measure => have := HGK.out; omega
          case rel => exact ⟨j + 1, _, by omega, by have := HGK.out; omega, rfl, by go_num, Lib.hid ⟨by rw [HQ.out, HFR.out, HKV.out.1, HKV.out.2]; simp, HBN.out _⟩⟩
    · obtain rfl : nn = j := by omega
      have HFR : Hid (freshB N r N.length = f) := Lib.hid (by rw [HEL.out]; exact HI.out.1)
      replace hC := Lib.hid (hC.out.later HI.out.2)
      replace hN := Lib.hid (hN.out.later HI.out.2)
      replace hW := Lib.hid (hW.out.later HI.out.2)
      replace BB := Lib.hid (BB.out.trans (HI.out.2.mono BB.out.size))
      clear HI hlt hj
      have hkp : (k : Int) ≤ (pc : Int) := by have := HPC.out; omega
      have wk1 : IntKind.i64.wrap ((k : Int) + 1) = (k : Int) + 1 := IntWalk.i64_in _ (by have := HN.out; omega)
      have hk1n : (k : Int) + 1 ≤ (nc : Int) := by omega
      have S3 : Sp.Sep wr (wr.alloc (.cells #[] 42)) [rowS 42 7 (.slice (some ⟨wr.heap.size, 0, none⟩) 0 0) 0 []] := rows_lit (Sp.Sep.nil (Below.refl _ _)) 42 7
      have hT0 := (hC.out.later S3.below).take k (by omega)
      have hq1 : 0 + k < 1000 := by have := HN.out; omega
      go_upto_region 14 with (refine wp_append_r rfl (.tmp 85) (.tmp 88) rfl rfl _ _ _ rfl S3 0 rfl hT0 hq1 ?_; intro g1 p1 v1 h1; have H1 := Lib.hid h1; clear h1)
      have S4 : Sp.Sep wr v1 [rowS 42 7 (.slice (some ⟨g1, 0, none⟩) k p1) k ((C.take k).flatMap rcC)] := by simpa using H1.out
      try simp only [Nat.zero_add]
      have HNL1 : Hid ((C.take k ++ C.drop (k + 1)).length = nc - 1) := Lib.hid (by rw [List.length_append, List.length_take, List.length_drop, ← hC.out.len]; omega)
      clear H1 S3 hT0 hq1
      by_cases hpk : pc = k + 1
      · have hpk2 := hpk.symm
        subst hpk2
        have HNK := Lib.hid (show nc = k + 1 by have := HPC.out; omega)
        have hz1 : nc - (k + 1) = 0 := by have := HNK.out; omega
        have hq1 : k + 0 < 1000 := by have := HN.out; omega
        go_upto_region 15 with (refine wp_append_r (L := []) rfl (.tmp 90) (.tmp 94) rfl rfl (some ⟨gc, 0, none⟩) 0 0 (by simp [Act.eval]) S4 0 rfl (RR.nil _ _) hq1 ?_; intro g2 p2 v2 h2; have H2 := Lib.hid h2; clear h2)
        have HD : C.drop (k + 1) = [] := List.drop_eq_nil_of_le (by rw [← hC.out.len]; have := HNK.out; omega)
        have S5 : Sp.Sep wr v2 [rowS 42 7 (.slice (some ⟨g2, 0, none⟩) k p2) k ((C.take k ++ C.drop (k + 1)).flatMap rcC)] := by rw [HD]; simpa using H2.out
        try simp only [Nat.add_zero]
        have HNL2 : Hid ((C.take k ++ C.drop (k + 1)).length = k) := Lib.hid (by rw [HNL1.out]; have := HNK.out; omega)
        clear H2 S4 hq1 HD hz1 HNL1
        obtain ⟨LS, eLS⟩ : ∃ z, C.take k ++ C.drop (k + 1) = z := ⟨_, rfl⟩
        rw [eLS] at S5 HNL2
        have HLS := Lib.hid eLS
        have HKL := Lib.hid (show k ≤ 40 by have := HN.out; omega)
        clear eLS
        have HLE : Hid (newest (C.take k ++ C.drop (k + 1)) = newest C ∨ f = true) := Lib.hid (by
          cases f with
          | true => exact .inr rfl
          | false => exact .inl (less_eq HRK.out (by rw [HEN.out]; exact HFR.out)))
        have HFL : Hid (Fine LS) := Lib.hid (by
          rw [← HLS.out]
          intro x hx
          rcases List.mem_append.1 hx with h | h
          · exact HF.out x (List.mem_of_mem_take h)
          · exact HF.out x (List.mem_of_mem_drop h))
        replace HLE : Hid (newest LS = N ∨ f = true) := Lib.hid (by rw [← HLS.out, ← HEN.out]; exact HLE.out)
        have HTE : Hid (newest (C ++ N) = N) := Lib.hid (by rw [← HEN.out]; exact twice_eq C)
        have HFT : Hid (Fine (C ++ N)) := Lib.hid (fun x hx => (List.mem_append.1 hx).elim (HF.out x) (HFN.out x))
        clear HLS
        have S6 := rows_lit S5 42 7
        have hC6 := hC.out.later S6.below
        have hq1 : 0 + nc < 1000 := by have := HN.out; omega
        go_upto_region 16 with (refine wp_append_r rfl (.tmp 96) (.tmp 97) rfl rfl _ _ _ rfl S6 1 rfl hC6 hq1 ?_; intro g3 p3 v3 h3; have H3 := Lib.hid h3; clear h3)
        have S7 : Sp.Sep wr v3 [rowS 42 7 (.slice (some ⟨g2, 0, none⟩) k p2) k (LS.flatMap rcC), rowS 42 7 (.slice (some ⟨g3, 0, none⟩) nc p3) nc (C.flatMap rcC)] := by simpa using H3.out
        try simp only [Nat.zero_add]
        clear H3 S6 S5 hC6 hq1
        have hN7 := hN.out.later S7.below
        have hq1 : nc + nn < 1000 := by have := HN.out; have := HNL.out; omega
        go_upto_region 17 with (refine wp_append_r rfl (.tmp 99) (.tmp 100) rfl rfl _ _ _ rfl S7 1 rfl hN7 hq1 ?_; intro g4 p4 wk0 h4; have H4 := Lib.hid h4; clear h4)
        have S8 : Sp.Sep wr wk0 [rowS 42 7 (.slice (some ⟨g2, 0, none⟩) k p2) k (LS.flatMap rcC), rowS 42 7 (.slice (some ⟨g4, 0, none⟩) (nc + nn) p4) (nc + nn) ((C ++ N).flatMap rcC)] := by simpa using H4.out
        have hL := Lib.hid (RR.of_row S8 (k := 0) rfl (L := LS) HNL2.out.symm)
        have hT := Lib.hid (RR.of_row S8 (k := 1) rfl (L := C ++ N) (by rw [List.length_append, hC.out.len, HEL.out]))
        replace hW := Lib.hid (hW.out.later S8.below)
        replace BB := Lib.hid (BB.out.trans (S8.below.mono BB.out.size))
        have hq2 : nc + nn ≤ 200 := by have := HN.out; have := HNL.out; omega
        have HQ2 := Lib.hid hq2
        clear H4 S7 hN7 hq1 S8 hC hN hq2 HNL2
        generalize nc + nn = nt at *
        cases f with
        | true =>
          have HK := Lib.hid (by have h := P.ss p4 now hT.out HQ2.out HFT.out HW.out; rw [HTE.out] at h; exact h)
          go_wp2_with fail
          refine HK.out.mono ?_
          rintro e' wk51 ⟨A1, p1, rfl, hr, hb⟩
          replace hL := Lib.hid (hL.out.later hb)
          replace hT := Lib.hid (hT.out.later hb)
          replace hW := Lib.hid (hW.out.later hb)
          replace BB := Lib.hid (BB.out.trans (hb.mono BB.out.size))
          have h1 := Lib.hid hr
          clear HK hb hr
          have HK := Lib.hid (lives_any (p := p1) h1.out (by rw [h1.out.len]; have := sesL_len N now; have := HEL.out; have := HNL.out; have := HN.out; omega))
          go_wp2_with fail
          refine HK.out.mono ?_
          rintro e' wk52 ⟨A2, p2, rfl, hr, hb⟩
          replace hL := Lib.hid (hL.out.later hb)
          replace hT := Lib.hid (hT.out.later hb)
          replace hW := Lib.hid (hW.out.later hb)
          replace h1 := Lib.hid (h1.out.later hb)
          replace BB := Lib.hid (BB.out.trans (hb.mono BB.out.size))
          have h2 := Lib.hid hr
          clear HK hb hr
          clear h1
          have HK := Lib.hid (same_yes (p := pW) (q := p2) hW.out h2.out (by rw [hW.out.len]; have := sesL_len N now; have := HEL.out; have := HNL.out; have := HN.out; omega))
          go_wp2_with fail
          refine HK.out.mono ?_
          rintro e' wk53 ⟨rfl, hb⟩
          replace hL := Lib.hid (hL.out.later hb)
          replace hT := Lib.hid (hT.out.later hb)
          replace hW := Lib.hid (hW.out.later hb)
          replace h2 := Lib.hid (h2.out.later hb)
          replace BB := Lib.hid (BB.out.trans (hb.mono BB.out.size))
          clear HK hb
          clear h2
          have HK := Lib.hid (fixed_any P wk53)
          go_wp2_with fail
          refine HK.out.mono ?_
          rintro e' wk54 ⟨rfl, hb⟩
          replace hL := Lib.hid (hL.out.later hb)
          replace hT := Lib.hid (hT.out.later hb)
          replace hW := Lib.hid (hW.out.later hb)
          replace BB := Lib.hid (BB.out.trans (hb.mono BB.out.size))
          clear HK hb
          go_wp2_with fail
          go_ret
          exact ⟨rfl, BB.out⟩
        | false =>
          have HLE2 : Hid (newest LS = N) := Lib.hid (HLE.out.elim id (fun h => by cases h))
          have HK := Lib.hid (by have h := P.ss p2 now hL.out (by have := HKL.out; omega) HFL.out HW.out; rw [HLE2.out] at h; exact h)
          go_wp2_with fail
          refine HK.out.mono ?_
          rintro e' wk71 ⟨A1, p1, rfl, hr, hb⟩
          replace hL := Lib.hid (hL.out.later hb)
          replace hT := Lib.hid (hT.out.later hb)
          replace hW := Lib.hid (hW.out.later hb)
          replace BB := Lib.hid (BB.out.trans (hb.mono BB.out.size))
          have h1 := Lib.hid hr
          clear HK hb hr
          have HK := Lib.hid (lives_any (p := p1) h1.out (by rw [h1.out.len]; have := sesL_len N now; have := HEL.out; have := HNL.out; have := HN.out; omega))
          go_wp2_with fail
          refine HK.out.mono ?_
          rintro e' wk72 ⟨A2, p2, rfl, hr, hb⟩
          replace hL := Lib.hid (hL.out.later hb)
          replace hT := Lib.hid (hT.out.later hb)
          replace hW := Lib.hid (hW.out.later hb)
          replace h1 := Lib.hid (h1.out.later hb)
          replace BB := Lib.hid (BB.out.trans (hb.mono BB.out.size))
          have h2 := Lib.hid hr
          clear HK hb hr
          clear h1
          have HK := Lib.hid (same_yes (p := pW) (q := p2) hW.out h2.out (by rw [hW.out.len]; have := sesL_len N now; have := HEL.out; have := HNL.out; have := HN.out; omega))
          go_wp2_with fail
          refine HK.out.mono ?_
          rintro e' wk73 ⟨rfl, hb⟩
          replace hL := Lib.hid (hL.out.later hb)
          replace hT := Lib.hid (hT.out.later hb)
          replace hW := Lib.hid (hW.out.later hb)
          replace h2 := Lib.hid (h2.out.later hb)
          replace BB := Lib.hid (BB.out.trans (hb.mono BB.out.size))
          clear HK hb
          clear h2
          have HK := Lib.hid (by have h := P.ss p4 now hT.out HQ2.out HFT.out HW.out; rw [HTE.out] at h; exact h)
          go_wp2_with fail
          refine HK.out.mono ?_
          rintro e' wk74 ⟨A1, p1, rfl, hr, hb⟩
          replace hL := Lib.hid (hL.out.later hb)
          replace hT := Lib.hid (hT.out.later hb)
          replace hW := Lib.hid (hW.out.later hb)
          replace BB := Lib.hid (BB.out.trans (hb.mono BB.out.size))
          have h1 := Lib.hid hr
          clear HK hb hr
          have HK := Lib.hid (lives_any (p := p1) h1.out (by rw [h1.out.len]; have := sesL_len N now; have := HEL.out; have := HNL.out; have := HN.out; omega))
          go_wp2_with fail
          refine HK.out.mono ?_
          rintro e' wk75 ⟨A2, p2, rfl, hr, hb⟩
          replace hL := Lib.hid (hL.out.later hb)
          replace hT := Lib.hid (hT.out.later hb)
          replace hW := Lib.hid (hW.out.later hb)
          replace h1 := Lib.hid (h1.out.later hb)
          replace BB := Lib.hid (BB.out.trans (hb.mono BB.out.size))
          have h2 := Lib.hid hr
          clear HK hb hr
          clear h1
          have HK := Lib.hid (same_yes (p := pW) (q := p2) hW.out h2.out (by rw [hW.out.len]; have := sesL_len N now; have := HEL.out; have := HNL.out; have := HN.out; omega))
          go_wp2_with fail
          refine HK.out.mono ?_
          rintro e' wk76 ⟨rfl, hb⟩
          replace hL := Lib.hid (hL.out.later hb)
          replace hT := Lib.hid (hT.out.later hb)
          replace hW := Lib.hid (hW.out.later hb)
          replace h2 := Lib.hid (h2.out.later hb)
          replace BB := Lib.hid (BB.out.trans (hb.mono BB.out.size))
          clear HK hb
          clear h2
          have HK := Lib.hid (fixed_any P wk76)
          go_wp2_with fail
          refine HK.out.mono ?_
          rintro e' wk77 ⟨rfl, hb⟩
          replace hL := Lib.hid (hL.out.later hb)
          replace hT := Lib.hid (hT.out.later hb)
          replace hW := Lib.hid (hW.out.later hb)
          replace BB := Lib.hid (BB.out.trans (hb.mono BB.out.size))
          clear HK hb
          go_wp2_with fail
          go_ret
          exact ⟨rfl, BB.out⟩
      · have hpk2 : k + 1 < pc := by have := HPC.out; omega
        have hq1 : k + (nc - (k + 1)) < 1000 := by have := HN.out; omega
        have hT1 := RR.drop (hC.out.later S4.below) (k + 1) (by omega)
        rw [Nat.zero_add] at hT1
        go_upto_region 15 with (refine wp_append_r rfl (.tmp 90) (.tmp 94) rfl rfl (some ⟨gc, (k + 1) * 7, none⟩) (nc - (k + 1)) _ rfl S4 0 rfl hT1 hq1 ?_; intro g2 p2 v2 h2; have H2 := Lib.hid h2; clear h2)
        have S5 : Sp.Sep wr v2 [rowS 42 7 (.slice (some ⟨g2, 0, none⟩) (k + (nc - (k + 1))) p2) (k + (nc - (k + 1))) ((C.take k ++ C.drop (k + 1)).flatMap rcC)] := by simpa using H2.out
        have HNL2 : Hid ((C.take k ++ C.drop (k + 1)).length = k + (nc - (k + 1))) := Lib.hid (by rw [HNL1.out]; omega)
        clear H2 S4 hq1 hT1 HNL1
        obtain ⟨LS, eLS⟩ : ∃ z, C.take k ++ C.drop (k + 1) = z := ⟨_, rfl⟩
        rw [eLS] at S5 HNL2
        have HLS := Lib.hid eLS
        obtain ⟨nl, enl⟩ : ∃ z, k + (nc - (k + 1)) = z := ⟨_, rfl⟩
        have HKL := Lib.hid (show nl ≤ 40 by have := HN.out; omega)
        rw [enl] at S5 HNL2 ⊢
        clear eLS
        have HLE : Hid (newest (C.take k ++ C.drop (k + 1)) = newest C ∨ f = true) := Lib.hid (by
          cases f with
          | true => exact .inr rfl
          | false => exact .inl (less_eq HRK.out (by rw [HEN.out]; exact HFR.out)))
        have HFL : Hid (Fine LS) := Lib.hid (by
          rw [← HLS.out]
          intro x hx
          rcases List.mem_append.1 hx with h | h
          · exact HF.out x (List.mem_of_mem_take h)
          · exact HF.out x (List.mem_of_mem_drop h))
        replace HLE : Hid (newest LS = N ∨ f = true) := Lib.hid (by rw [← HLS.out, ← HEN.out]; exact HLE.out)
        have HTE : Hid (newest (C ++ N) = N) := Lib.hid (by rw [← HEN.out]; exact twice_eq C)
        have HFT : Hid (Fine (C ++ N)) := Lib.hid (fun x hx => (List.mem_append.1 hx).elim (HF.out x) (HFN.out x))
        clear HLS enl
        have S6 := rows_lit S5 42 7
        have hC6 := hC.out.later S6.below
        have hq1 : 0 + nc < 1000 := by have := HN.out; omega
        go_upto_region 16 with (refine wp_append_r rfl (.tmp 96) (.tmp 97) rfl rfl _ _ _ rfl S6 1 rfl hC6 hq1 ?_; intro g3 p3 v3 h3; have H3 := Lib.hid h3; clear h3)
        have S7 : Sp.Sep wr v3 [rowS 42 7 (.slice (some ⟨g2, 0, none⟩) nl p2) nl (LS.flatMap rcC), rowS 42 7 (.slice (some ⟨g3, 0, none⟩) nc p3) nc (C.flatMap rcC)] := by simpa using H3.out
        try simp only [Nat.zero_add]
        clear H3 S6 S5 hC6 hq1
        have hN7 := hN.out.later S7.below
        have hq1 : nc + nn < 1000 := by have := HN.out; have := HNL.out; omega
        go_upto_region 17 with (refine wp_append_r rfl (.tmp 99) (.tmp 100) rfl rfl _ _ _ rfl S7 1 rfl hN7 hq1 ?_; intro g4 p4 wk0 h4; have H4 := Lib.hid h4; clear h4)
        have S8 : Sp.Sep wr wk0 [rowS 42 7 (.slice (some ⟨g2, 0, none⟩) nl p2) nl (LS.flatMap rcC), rowS 42 7 (.slice (some ⟨g4, 0, none⟩) (nc + nn) p4) (nc + nn) ((C ++ N).flatMap rcC)] := by simpa using H4.out
        have hL := Lib.hid (RR.of_row S8 (k := 0) rfl (L := LS) HNL2.out.symm)
        have hT := Lib.hid (RR.of_row S8 (k := 1) rfl (L := C ++ N) (by rw [List.length_append, hC.out.len, HEL.out]))
        replace hW := Lib.hid (hW.out.later S8.below)
        replace BB := Lib.hid (BB.out.trans (S8.below.mono BB.out.size))
        have hq2 : nc + nn ≤ 200 := by have := HN.out; have := HNL.out; omega
        have HQ2 := Lib.hid hq2
        clear H4 S7 hN7 hq1 S8 hC hN hq2 HNL2
        generalize nc + nn = nt at *
        cases f with
        | true =>
          have HK := Lib.hid (by have h := P.ss p4 now hT.out HQ2.out HFT.out HW.out; rw [HTE.out] at h; exact h)
          go_wp2_with fail
          refine HK.out.mono ?_
          rintro e' wk51 ⟨A1, p1, rfl, hr, hb⟩
          replace hL := Lib.hid (hL.out.later hb)
          replace hT := Lib.hid (hT.out.later hb)
          replace hW := Lib.hid (hW.out.later hb)
          replace BB := Lib.hid (BB.out.trans (hb.mono BB.out.size))
          have h1 := Lib.hid hr
          clear HK hb hr
          have HK := Lib.hid (lives_any (p := p1) h1.out (by rw [h1.out.len]; have := sesL_len N now; have := HEL.out; have := HNL.out; have := HN.out; omega))
          go_wp2_with fail
          refine HK.out.mono ?_
          rintro e' wk52 ⟨A2, p2, rfl, hr, hb⟩
          replace hL := Lib.hid (hL.out.later hb)
          replace hT := Lib.hid (hT.out.later hb)
          replace hW := Lib.hid (hW.out.later hb)
          replace h1 := Lib.hid (h1.out.later hb)
          replace BB := Lib.hid (BB.out.trans (hb.mono BB.out.size))
          have h2 := Lib.hid hr
          clear HK hb hr
          clear h1
          have HK := Lib.hid (same_yes (p := pW) (q := p2) hW.out h2.out (by rw [hW.out.len]; have := sesL_len N now; have := HEL.out; have := HNL.out; have := HN.out; omega))
          go_wp2_with fail
          refine HK.out.mono ?_
          rintro e' wk53 ⟨rfl, hb⟩
          replace hL := Lib.hid (hL.out.later hb)
          replace hT := Lib.hid (hT.out.later hb)
          replace hW := Lib.hid (hW.out.later hb)
          replace h2 := Lib.hid (h2.out.later hb)
          replace BB := Lib.hid (BB.out.trans (hb.mono BB.out.size))
          clear HK hb
          clear h2
          have HK := Lib.hid (fixed_any P wk53)
          go_wp2_with fail
          refine HK.out.mono ?_
          rintro e' wk54 ⟨rfl, hb⟩
          replace hL := Lib.hid (hL.out.later hb)
          replace hT := Lib.hid (hT.out.later hb)
          replace hW := Lib.hid (hW.out.later hb)
          replace BB := Lib.hid (BB.out.trans (hb.mono BB.out.size))
          clear HK hb
          go_wp2_with fail
          go_ret
          exact ⟨rfl, BB.out⟩
        | false =>
          have HLE2 : Hid (newest LS = N) := Lib.hid (HLE.out.elim id (fun h => by cases h))
          have HK := Lib.hid (by have h := P.ss p2 now hL.out (by have := HKL.out; omega) HFL.out HW.out; rw [HLE2.out] at h; exact h)
          go_wp2_with fail
          refine HK.out.mono ?_
          rintro e' wk71 ⟨A1, p1, rfl, hr, hb⟩
          replace hL := Lib.hid (hL.out.later hb)
          replace hT := Lib.hid (hT.out.later hb)
          replace hW := Lib.hid (hW.out.later hb)
          replace BB := Lib.hid (BB.out.trans (hb.mono BB.out.size))
          have h1 := Lib.hid hr
          clear HK hb hr
          have HK := Lib.hid (lives_any (p := p1) h1.out (by rw [h1.out.len]; have := sesL_len N now; have := HEL.out; have := HNL.out; have := HN.out; omega))
          go_wp2_with fail
          refine HK.out.mono ?_
          rintro e' wk72 ⟨A2, p2, rfl, hr, hb⟩
          replace hL := Lib.hid (hL.out.later hb)
          replace hT := Lib.hid (hT.out.later hb)
          replace hW := Lib.hid (hW.out.later hb)
          replace h1 := Lib.hid (h1.out.later hb)
          replace BB := Lib.hid (BB.out.trans (hb.mono BB.out.size))
          have h2 := Lib.hid hr
          clear HK hb hr
          clear h1
          have HK := Lib.hid (same_yes (p := pW) (q := p2) hW.out h2.out (by rw [hW.out.len]; have := sesL_len N now; have := HEL.out; have := HNL.out; have := HN.out; omega))
          go_wp2_with fail
          refine HK.out.mono ?_
          rintro e' wk73 ⟨rfl, hb⟩
          replace hL := Lib.hid (hL.out.later hb)
          replace hT := Lib.hid (hT.out.later hb)
          replace hW := Lib.hid (hW.out.later hb)
          replace h2 := Lib.hid (h2.out.later hb)
          replace BB := Lib.hid (BB.out.trans (hb.mono BB.out.size))
          clear HK hb
          clear h2
          have HK := Lib.hid (by have h := P.ss p4 now hT.out HQ2.out HFT.out HW.out; rw [HTE.out] at h; exact h)
          go_wp2_with fail
          refine HK.out.mono ?_
          rintro e' wk74 ⟨A1, p1, rfl, hr, hb⟩
          replace hL := Lib.hid (hL.out.later hb)
          replace hT := Lib.hid (hT.out.later hb)
          replace hW := Lib.hid (hW.out.later hb)
          replace BB := Lib.hid (BB.out.trans (hb.mono BB.out.size))
          have h1 := Lib.hid hr
          clear HK hb hr
          have HK := Lib.hid (lives_any (p := p1) h1.out (by rw [h1.out.len]; have := sesL_len N now; have := HEL.out; have := HNL.out; have := HN.out; omega))
          go_wp2_with fail
          refine HK.out.mono ?_
          rintro e' wk75 ⟨A2, p2, rfl, hr, hb⟩
          replace hL := Lib.hid (hL.out.later hb)
          replace hT := Lib.hid (hT.out.later hb)
          replace hW := Lib.hid (hW.out.later hb)
          replace h1 := Lib.hid (h1.out.later hb)
          replace BB := Lib.hid (BB.out.trans (hb.mono BB.out.size))
          have h2 := Lib.hid hr
          clear HK hb hr
          clear h1
          have HK := Lib.hid (same_yes (p := pW) (q := p2) hW.out h2.out (by rw [hW.out.len]; have := sesL_len N now; have := HEL.out; have := HNL.out; have := HN.out; omega))
          go_wp2_with fail
          refine HK.out.mono ?_
          rintro e' wk76 ⟨rfl, hb⟩
          replace hL := Lib.hid (hL.out.later hb)
          replace hT := Lib.hid (hT.out.later hb)
          replace hW := Lib.hid (hW.out.later hb)
          replace h2 := Lib.hid (h2.out.later hb)
          replace BB := Lib.hid (BB.out.trans (hb.mono BB.out.size))
          clear HK hb
          clear h2
          have HK := Lib.hid (fixed_any P wk76)
          go_wp2_with fail
          refine HK.out.mono ?_
          rintro e' wk77 ⟨rfl, hb⟩
          replace hL := Lib.hid (hL.out.later hb)
          replace hT := Lib.hid (hT.out.later hb)
          replace hW := Lib.hid (hW.out.later hb)
          replace BB := Lib.hid (BB.out.trans (hb.mono BB.out.size))
          clear HK hb
          go_wp2_with fail
          go_ret
          exact ⟨rfl, BB.out⟩

set_option maxRecDepth 100000 in
theorem lifted (P : Prg) (os : Os) (started : os.Started) (H : Type) (enc : TypeId × Value → H) :
    ReturnsInHanded {} Try.checked os 5 .any (Rows.replayLessSpec.pre6 enc Try.prog Try.f5 Rows.replayLessRow.domain false) (Rows.replayLessSpec.post enc Try.prog Try.f5 false true false false) := by
  refine returnsInHanded_of_change (C := Try.checked) own started (by kernel_rfl) Try.func5
    (ChangeSpec.witness6 (enc := enc) (C := Try.checked) false ⟨#[], #[.slice none 0 0, .int .u8 0, .int .u64 0], []⟩ 8 (by kernel_rfl) (by kernel_rfl) (by kernel_rfl) (by kernel_rfl)) ?_
  intro W base args ds gs before hval0 hW hcnd _
  have hval : ∀ (j : Nat) t v, Try.f5.params[j]? = some t → args[j]? = some v → Value.okWide Try.prog W .any base t v := hval0
  have hW' := hW
  obtain ⟨p, q, hA0, hV, rfl, hfz, hnd⟩ := hW
  have hA : DataW.TrodAll enc Try.prog W 0 (fun _ => true) true Try.f5.params.toList args.toList ds p := hA0
  rw [Try.params5] at hA hval
  obtain ⟨v0, vs0, d0, ds0, p0, q0, hargs, rfl, rfl, h0, r0⟩ := trodAll_cons hA
  obtain ⟨v1, vs1, d1, ds1, p1, q1, rfl, rfl, rfl, h1, r1⟩ := trodAll_cons r0
  obtain ⟨v2, vs2, d2, ds2, p2, q2, rfl, rfl, rfl, h2, r2⟩ := trodAll_cons r1
  obtain ⟨rfl, rfl, rfl⟩ := trodAll_nil r2
  obtain rfl : args = #[v0, v1, v2] := by cases args; simp_all
  obtain ⟨rfl, rfl⟩ := trodVars_none hV
  obtain ⟨A0, n0, c0, L0, rfl, hn0, hL0, hf0⟩ := Re.open_recs (hval 0 22 v0 rfl rfl) h0
  obtain ⟨a1, rfl, rfl, rfl, w1⟩ := open_int Try.underlying5 (hval 1 5 v1 rfl rfl) h1
  obtain ⟨a2, rfl, rfl, rfl, w2⟩ := open_int Try.underlying23 (hval 2 23 v2 rfl rfl) h2
  clear hA0 hval0
  try simp only [List.append_nil] at hW'
  try simp only [List.nil_append] at hW'
  have hlt := fun x hx => hW'.lt x hx
  refine (walk P A0 n0 c0 L0 a1 a2 W hL0 hn0 hf0 (by simp [Lit.wf] at w1; exact w1) (u64_of w2)).mono fun e W' ⟨he, hg⟩ => ?_
  subst he
  refine ⟨_, rfl, post_mem hW' (fun _ _ _ => (trodAll_cons_mk (shut_bool Try.underlying4 _) trodAll_mk0)) (fun sp hsp => ?_) (fun _ => rfl) hg (ok_one (by kernel_rfl) rfl (okWide_bool_mk Try.underlying4 _))⟩
  have hall := (trodAll_cons_mk (arg_same (sp := sp) laid (by kernel_rfl) (of_decide_eq_true (by kernel_rfl)) h0 hg (by intro x hx; simp_all) hlt hsp) (trodAll_cons_mk (arg_same (sp := sp) laid (by kernel_rfl) (of_decide_eq_true (by kernel_rfl)) h1 hg (by intro x hx; simp_all) hlt hsp) (trodAll_cons_mk (arg_same (sp := sp) laid (by kernel_rfl) (of_decide_eq_true (by kernel_rfl)) h2 hg (by intro x hx; simp_all) hlt hsp) trodAll_mk0)))
  try simp only [List.append_nil] at hall
  try simp only [List.nil_append] at hall
  exact hall

theorem over (P : Prg) : Rows.replayLessRow.holds Try.pinned (OpenSpec.ofChange Rows.replayLessSpec) :=
  OpenClaim.holds_of_wide 5 Try.f5 rfl rfl rfl rfl rfl rfl rfl ⟨rfl, rfl, rfl, rfl, rfl⟩ rfl rfl rfl rfl rfl (by kernel_rfl) Try.func5 (by kernel_rfl)
    (of_decide_eq_true (by kernel_rfl)) (by unfold Func.isWrapper; first | (rw [if_pos (by decide +kernel)]; kernel_rfl) | (rw [if_neg (by decide +kernel)]; exact ⟨rfl, rfl⟩))
    (fun os started H enc _ => lifted P os started H enc)

end Go.Proofs.Ytckakkocblkcoaa.replayLess
