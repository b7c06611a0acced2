/- For every list of records, and numbers, the statement ReplayLater about replay returns true, and changes nothing. Conditions: none. -/
import Derived.Test.YtckakkocblkcoaaReR
import Derived.ProofKit
import Derived.OpenShut
import Derived.ShutString
import Derived.SizedLaws
namespace Go.Proofs.Ytckakkocblkcoaa.replayLater
open Go.ChangeShapes Go.WideShapes Go.ChangeAt Go.RowKit Go.Lib Go.MapKept
open Go.ChangeMaps (open_string shut_string)
set_option linter.unusedVariables false

theorem own : ownKnob Try.prog.godebug = none := by kernel_rfl
theorem laid : laidOutB Try.prog = true := by kernel_rfl

set_option maxRecDepth 100000
open Re Sp
theorem ses_ext {x y : Ses} (h1 : x.i.toList = y.i.toList) (h2 : x.a.toList = y.a.toList) (h3 : x.d = y.d) : x = y := by
  obtain ⟨i, a, d⟩ := x
  obtain ⟨i', a', d'⟩ := y
  simp only at h1 h2 h3
  rw [Go.Lib.toList_data, Go.Lib.toList_data] at h1 h2
  have e1 : i = i' := ByteArray.ext (Array.toList_inj.1 h1)
  have e2 : a = a' := ByteArray.ext (Array.toList_inj.1 h2)
  rw [e1, e2, h3]
/-- Those that live later. -/
def fl (lt : Int) (l : List Ses) : List Ses := l.filter fun s => decide (lt < s.d)
theorem ses_later (N : List Rec) {now lt : Int} (h : now ≤ lt) : sesL N lt = fl lt (sesL N now) := by
  unfold sesL fl
  rw [List.filter_map, List.filter_filter]
  congr 1
  apply List.filter_congr
  intro r _
  unfold lives
  simp only [Function.comp, ses]
  by_cases h1 : r.k = 1 <;> by_cases h2 : lt < r.d <;> simp [h1, h2] <;> omega
theorem ses_live {N : List Rec} {now : Int} {s : Ses} (h : s ∈ sesL N now) : now < s.d := by
  obtain ⟨r, hr, rfl⟩ := List.mem_map.1 h
  have := (List.mem_filter.1 hr).2
  unfold lives at this
  simp only [Bool.and_eq_true, decide_eq_true_eq] at this
  exact this.2
theorem ses_none {N : List Rec} (h : Fine N) : sesL N 18446744073709551615 = [] := by
  unfold sesL
  rw [List.map_eq_nil_iff, List.filter_eq_nil_iff]
  intro r hr
  have := (h r hr).d.2
  unfold lives
  simp only [Bool.and_eq_true, decide_eq_true_eq, not_and, Int.not_lt]
  intro _
  omega
theorem drop_one {α : Type} {l : List α} {k : Nat} {x : α} (h : l[k]? = some x) : l.drop k = x :: l.drop (k + 1) := by
  obtain ⟨h1, h2⟩ := List.getElem?_eq_some_iff.1 h
  rw [← h2, List.getElem_cons_drop]
set_option maxHeartbeats 32000000 in
theorem walk (P : Prg) (A : Option Addr) (n p : Nat) (L : List Rec) (now more : Int) (w : World) (hL : RR w A n L) (hn : n ≤ maxLen) (hf : Fine L) (h1 : 0 ≤ now ∧ now < 18446744073709551616) (h2 : 0 ≤ more ∧ more < 18446744073709551616) :
    Calls Try.prog 6 #[.slice A n p, .int .u64 now, .int .u64 more] w fun e w' => e = .returned (.bool true) ∧ Below w.heap.size w w' := by
  have HC : Hid (Calls Try.prog 9 #[.slice A n p, .int .i64 40] w fun e w' => ∃ g' p', e = .returned (.slice (some ⟨g', 0, none⟩) (min 40 n) p') ∧ RR w' (some ⟨g', 0, none⟩) (min 40 n) (cutL L 40) ∧ Below w.heap.size w w') := Lib.hid (cut_any p hL hn 40 (by decide) hf)
  have HF := Lib.hid (cut_fine hf 40)
  have HN := Lib.hid (show min 40 n ≤ 40 by omega)
  have HW := Lib.hid h1
  obtain ⟨wv, ew⟩ : ∃ z, IntKind.u64.wrap (now + more) = z := ⟨_, rfl⟩
  have hwv : 0 ≤ wv ∧ wv < 18446744073709551616 := by
    rw [← ew, IntKind.wrap_u64]
    omega
  obtain ⟨lt, elt⟩ : ∃ z, (if wv < now then 18446744073709551615 else wv) = z := ⟨_, rfl⟩
  have HLT : Hid (now ≤ lt ∧ 0 ≤ lt ∧ lt < 18446744073709551616) := Lib.hid (by
    rw [← elt]
    split <;> omega)
  have HEL := Lib.hid elt
  clear hL hn hf h2 elt hwv
  generalize cutL L 40 = C at *
  generalize min 40 n = nc at *
  go_enter Try.func6, Try.ntmps6
  go_wp2_with fail
  refine HC.out.mono ?_
  rintro e' w1 ⟨gc, pc, rfl, hr, hb⟩
  have hC := Lib.hid hr
  have BB := Lib.hid hb
  clear HC hr hb h1
  go_upto_if 20 with fail
  go_cut [7] from 18 to 20 (fun s7 wx => s7 = .int .u64 lt ∧ wx = w1)
  case first =>
    by_cases hw : wv < now
    · go_wp2_with fail
      go_meet
      exact ⟨by rw [← HEL.out, if_pos hw], rfl⟩
    · have hw2 : now ≤ wv := by omega
      go_wp2_with fail
      go_meet
      exact ⟨by rw [← HEL.out, if_neg (by omega)], rfl⟩
  case rest =>
  obtain ⟨rfl, hwx⟩ := hcut
  replace hwx := hwx.symm
  subst hwx
  clear ew
  have HK := Lib.hid (P.ss pc now hC.out (by have := HN.out; omega) HF.out HW.out)
  go_wp2_with fail
  refine HK.out.mono ?_
  rintro e' wk1 ⟨AA, pA, rfl, hr, hb⟩
  replace hC := Lib.hid (hC.out.later hb)
  replace BB := Lib.hid (BB.out.trans (hb.mono BB.out.size))
  have hA := Lib.hid hr
  clear HK hb hr
  have HK := Lib.hid (P.ss pc lt hC.out (by have := HN.out; omega) HF.out HLT.out.2)
  go_wp2_with fail
  refine HK.out.mono ?_
  rintro e' wk2 ⟨AB, pB, rfl, hr, hb⟩
  replace hC := Lib.hid (hC.out.later hb)
  replace hA := Lib.hid (hA.out.later hb)
  replace BB := Lib.hid (BB.out.trans (hb.mono BB.out.size))
  have hB := Lib.hid hr
  clear HK hb hr
  have HNF : Hid (Fine (newest C)) := Lib.hid (newest_fine HF.out)
  have HNB : Hid ((newest C).length ≤ 40) := Lib.hid (by have := newest_len C; have := hC.out.len; have := HN.out; omega)
  obtain ⟨a, ea⟩ : ∃ z, sesL (newest C) now = z := ⟨_, rfl⟩
  obtain ⟨b, eb⟩ : ∃ z, sesL (newest C) lt = z := ⟨_, rfl⟩
  have HBA : Hid (b = fl lt a) := Lib.hid (by rw [← ea, ← eb]; exact ses_later _ HLT.out.1)
  have HAL : Hid (∀ s ∈ a, now < s.d) := Lib.hid (by rw [← ea]; exact fun s hs => ses_live hs)
  have HAB : Hid (a.length ≤ 40 ∧ b.length ≤ 40) := Lib.hid (by rw [← ea, ← eb]; have h3 := sesL_len (newest C) now; have h4 := sesL_len (newest C) lt; have := HNB.out; omega)
  rw [ea] at hA ⊢
  rw [eb] at hB ⊢
  clear ea eb
  obtain ⟨na, ena⟩ : ∃ z, a.length = z := ⟨_, rfl⟩
  obtain ⟨nb, enb⟩ : ∃ z, b.length = z := ⟨_, rfl⟩
  have HEA := Lib.hid ena
  have HEB := Lib.hid enb
  rw [ena] at hA HAB ⊢
  rw [enb] at hB HAB ⊢
  clear ena enb
  go_wp2_with fail
  have HB0 := Lib.hid (Below.refl wk2.heap.size wk2)
  go_loopg [10, 11] nb (fun gk s10 s11 wr => ∃ (k i : Nat), k ≤ na ∧ i ≤ nb ∧ gk = nb - i ∧ s10 = .int .i64 (k : Nat) ∧ s11 = .int .i64 (i : Nat) ∧ Hid (fl lt (a.drop k) = b.drop i ∧ Below wk2.heap.size wk2 wr))
  case atStart => exact ⟨0, 0, by omega, by omega, rfl, rfl, rfl, Lib.hid ⟨HBA.out.symm, Below.refl _ _⟩⟩
  case round =>
    obtain ⟨k, i, hk, hi, hgk, rfl, rfl, HI⟩ := hrel
    have HGK := Lib.hid hgk
    clear hgk HB0
    by_cases hlt : i < nb
    · have hli : (i : Int) < (nb : Int) := by omega
      obtain ⟨y, hy⟩ : ∃ y, b[i]? = some y := ⟨_, List.getElem?_eq_getElem (by rw [HEB.out]; exact hlt)⟩
      obtain ⟨gb, ob, rfl, hcb⟩ := hB.out.c (by omega)
      have HYD : Hid (lt < y.d) := Lib.hid (by
        have : y ∈ fl lt a := by rw [← HBA.out]; exact List.mem_of_getElem? hy
        have := (List.mem_filter.1 this).2
        simpa using this)
      have HDB := Lib.hid (drop_one hy)
      have HYC := Lib.hid (hcb i y hy)
      have HLI := Lib.hid hlt
      clear hcb hy hlt
      go_wp2_with fail
      go_loopg [10] (na - k) (fun gk s10 wr2 => ∃ (k : Nat), k ≤ na ∧ gk = na - k ∧ s10 = .int .i64 (k : Nat) ∧ Hid (fl lt (a.drop k) = b.drop i ∧ Below wk2.heap.size wk2 wr2))
      case atStart => exact ⟨k, hk, rfl, rfl, HI⟩
      case round =>
        obtain ⟨k, hk, hgk, rfl, HJ⟩ := hrel
        have HGJ := Lib.hid hgk
        clear hgk HI
        by_cases hka : k < na
        · have hkai : (k : Int) < (na : Int) := by omega
          obtain ⟨x, hx⟩ : ∃ x, a[k]? = some x := ⟨_, List.getElem?_eq_getElem (by rw [HEA.out]; exact hka)⟩
          obtain ⟨ga, oa, rfl, hca⟩ := hA.out.c (by omega)
          have Rx := (hca k x hx).later HJ.out.2
          have Ry := HYC.out.later HJ.out.2
          have x0 := Rx.c0
          have x1 := Rx.c1
          have x2 := Rx.c2
          have z2 := fun q => show (wr.drewN q).cell? _ = _ from Rx.c2
          have y0 := Ry.c0
          have y1 := Ry.c1
          have y2 := Ry.c2
          have v2 := fun q => show (wr.drewN q).cell? _ = _ from Ry.c2
          have HDA := Lib.hid (drop_one hx)
          have HBN : Hid (∀ q, Below wk2.heap.size wk2 (wr.drewN q)) := Lib.hid (fun q => below_drewN HJ.out.2 q)
          have wk : IntKind.i64.wrap ((k : Int) + 1) = (k : Int) + 1 := IntWalk.i64_in _ (by have := HAB.out; omega)
          have wi : IntKind.i64.wrap ((i : Int) + 1) = (i : Int) + 1 := IntWalk.i64_in _ (by have := HAB.out; have := HLI.out; omega)
          have hne : ((k : Int) == (na : Int)) = false := by simp; omega
          have HXY : Hid (x ≠ y → x.d ≤ lt) := Lib.hid (fun hne => by
            refine Classical.byContradiction fun h => hne ?_
            have h2 := HJ.out.1
            rw [HDA.out, HDB.out] at h2
            unfold fl at h2
            rw [List.filter_cons_of_pos (by simp; omega)] at h2
            injection h2)
          have HXE : Hid (x = y → fl lt (a.drop (k + 1)) = b.drop (i + 1)) := Lib.hid (fun e => by
            have h2 := HJ.out.1
            have := HYD.out
            rw [HDA.out, HDB.out] at h2
            unfold fl at h2 ⊢
            rw [List.filter_cons_of_pos (by rw [e]; simpa using this)] at h2
            injection h2)
          have HXN : Hid (x ≠ y → fl lt (a.drop (k + 1)) = b.drop i) := Lib.hid (fun hne => by
            have h2 := HJ.out.1
            have := HXY.out hne
            rw [HDA.out] at h2
            unfold fl at h2 ⊢
            rw [List.filter_cons_of_neg (by simp; omega)] at h2
            exact h2)
          clear hca hx Rx Ry
          go_upto_region 10 with fail
          by_cases e1 : x.i.toList = y.i.toList
          case neg =>
            have q1 : (x.i.toList == y.i.toList) = false := by simpa using e1
            have hxy : x ≠ y := fun h => e1 (by rw [h])
            have hd := HXY.out hxy
            clear e1
            go_quiet (fail)
            clear x0 x1 x2 y0 y1 y2 q1
            go_wp2_with fail
            go_roundg (na - (k + 1))
            case measure => have := HGJ.out; omega
            case rel => exact ⟨k + 1, by omega, by have := HGJ.out; omega, by go_num, Lib.hid ⟨HXN.out hxy, HBN.out _⟩⟩
          by_cases e2 : x.a.toList = y.a.toList
          case neg =>
            have q1 : (x.i.toList == y.i.toList) = true := by simpa using e1
            have q2 : (x.a.toList == y.a.toList) = false := by simpa using e2
            have hxy : x ≠ y := fun h => e2 (by rw [h])
            have hd := HXY.out hxy
            clear e1 e2
            go_quiet (fail)
            clear x0 x1 x2 y0 y1 y2 q1
            go_wp2_with fail
            go_roundg (na - (k + 1))
            case measure => have := HGJ.out; omega
            case rel => exact ⟨k + 1, by omega, by have := HGJ.out; omega, by go_num, Lib.hid ⟨HXN.out hxy, HBN.out _⟩⟩
          by_cases e3 : x.d = y.d
          case neg =>
            have q1 : (x.i.toList == y.i.toList) = true := by simpa using e1
            have q2 : (x.a.toList == y.a.toList) = true := by simpa using e2
            have q3 : (x.d == y.d) = false := by simpa using e3
            have hxy : x ≠ y := fun h => e3 (by rw [h])
            have hd := HXY.out hxy
            clear e1 e2 e3
            go_quiet (fail)
            clear x0 x1 x2 y0 y1 y2 q1
            go_wp2_with fail
            go_roundg (na - (k + 1))
            case measure => have := HGJ.out; omega
            case rel => exact ⟨k + 1, by omega, by have := HGJ.out; omega, by go_num, Lib.hid ⟨HXN.out hxy, HBN.out _⟩⟩
          have hxy : x = y := ses_ext e1 e2 e3
          clear e1 e2 e3
          subst hxy
          have q1 : (x.i.toList == x.i.toList) = true := by simp
          have q2 : (x.a.toList == x.a.toList) = true := by simp
          have q3 : (x.d == x.d) = true := by simp
          have hd : ¬ x.d ≤ lt := by have := HYD.out; omega
          go_quiet (fail)
          clear x0 x1 x2 y0 y1 y2 q1 q2 q3
          go_wp2_with fail
          go_roundg (nb - (i + 1))
          case measure => have := HGK.out; have := HLI.out; omega
          case rel => exact ⟨k + 1, i + 1, by omega, by have := HLI.out; omega, by have := HGK.out; have := HLI.out; omega, by go_num, by go_num, Lib.hid ⟨HXE.out (by trivial), HBN.out _⟩⟩
        · exfalso
          have h2 := HJ.out.1
          rw [HDB.out, List.drop_eq_nil_of_le (by rw [HEA.out]; omega)] at h2
          cases h2
    · obtain rfl : nb = i := by omega
      have HDN : Hid (∀ j s, k ≤ j → a[j]? = some s → s.d ≤ lt) := Lib.hid (fun j s hkj hs => by
        have h2 := HI.out.1
        rw [show b.drop nb = [] from List.drop_eq_nil_of_le (by rw [HEB.out]; exact Nat.le_refl _)] at h2
        unfold fl at h2
        rw [List.filter_eq_nil_iff] at h2
        have hm : s ∈ a.drop k := List.mem_of_getElem? (i := j - k) (by rw [List.getElem?_drop, show k + (j - k) = j by omega]; exact hs)
        have := h2 s hm
        simpa using this)
      clear hlt hi
      go_wp2_with fail
      go_loopg [12] (na - k) (fun gk s12 wr => ∃ (j : Nat), k ≤ j ∧ j ≤ na ∧ gk = na - j ∧ s12 = .int .i64 (j : Nat) ∧ Hid (Below wk2.heap.size wk2 wr))
      case atStart => exact ⟨k, by omega, hk, rfl, rfl, Lib.hid HI.out.2⟩
      case round =>
        obtain ⟨j, hkj, hj, hgk, rfl, HK2⟩ := hrel
        have HGJ := Lib.hid hgk
        clear hgk HI
        by_cases hja : j < na
        · have hjai : (j : Int) < (na : Int) := by omega
          obtain ⟨x, hx⟩ : ∃ x, a[j]? = some x := ⟨_, List.getElem?_eq_getElem (by rw [HEA.out]; exact hja)⟩
          obtain ⟨ga, oa, rfl, hca⟩ := hA.out.c (by omega)
          have x2 := ((hca j x hx).later HK2.out).c2
          have hd1 : x.d ≤ lt := HDN.out j x hkj hx
          have hd2 : ¬ x.d ≤ now := by have := HAL.out x (List.mem_of_getElem? hx); omega
          have wj : IntKind.i64.wrap ((j : Int) + 1) = (j : Int) + 1 := IntWalk.i64_in _ (by have := HAB.out; omega)
          clear hca hx
          go_wp2_with fail
          go_roundg (na - (j + 1))
          case measure => have := HGJ.out; omega
          case rel => exact ⟨j + 1, by omega, by omega, by have := HGJ.out; omega, by go_num, HK2⟩
        · obtain rfl : na = j := by omega
          replace hC := Lib.hid (hC.out.later HK2.out)
          have HSS : Hid (Calls Try.prog 16 #[.slice (some ⟨gc, 0, none⟩) nc pc, .int .u64 18446744073709551615] wr fun e w' => ∃ A' p', e = .returned (.slice A' 0 p') ∧ Below wr.heap.size wr w') := Lib.hid (by
            have h := P.ss pc 18446744073709551615 hC.out (by have := HN.out; omega) HF.out (by decide)
            rw [ses_none HNF.out] at h
            exact h.mono fun e w' ⟨A', p', he, _, hb⟩ => ⟨A', p', he, hb⟩)
          replace BB := Lib.hid (BB.out.trans (HK2.out.mono BB.out.size))
          have q0 : ((0 : Int) == 0) = true := rfl
          clear hja hj
          go_wp2_with fail
          refine HSS.out.mono ?_
          rintro e' wz ⟨Az, pz, rfl, hb⟩
          replace BB := Lib.hid (BB.out.trans (hb.mono BB.out.size))
          clear hb HSS
          have HFX := Lib.hid (fixed_any P wz)
          go_wp2_with fail
          refine HFX.out.mono ?_
          rintro e' wy ⟨rfl, hb⟩
          replace BB := Lib.hid (BB.out.trans (hb.mono BB.out.size))
          clear hb
          go_wp2_with fail
          go_ret
          exact ⟨rfl, BB.out⟩

set_option maxRecDepth 100000 in
theorem lifted (P : Prg) (os : Os) (started : os.Started) (H : Type) (enc : TypeId × Value → H) :
    ReturnsInHanded {} Try.checked os 6 .any (Rows.replayLaterSpec.pre6 enc Try.prog Try.f6 Rows.replayLaterRow.domain false) (Rows.replayLaterSpec.post enc Try.prog Try.f6 false true false false) := by
  refine returnsInHanded_of_change (C := Try.checked) own started (by kernel_rfl) Try.func6
    (ChangeSpec.witness6 (enc := enc) (C := Try.checked) false ⟨#[], #[.slice none 0 0, .int .u64 0, .int .u64 0], []⟩ 8 (by kernel_rfl) (by kernel_rfl) (by kernel_rfl) (by kernel_rfl)) ?_
  intro W base args ds gs before hval0 hW hcnd _
  have hval : ∀ (j : Nat) t v, Try.f6.params[j]? = some t → args[j]? = some v → Value.okWide Try.prog W .any base t v := hval0
  have hW' := hW
  obtain ⟨p, q, hA0, hV, rfl, hfz, hnd⟩ := hW
  have hA : DataW.TrodAll enc Try.prog W 0 (fun _ => true) true Try.f6.params.toList args.toList ds p := hA0
  rw [Try.params6] at hA hval
  obtain ⟨v0, vs0, d0, ds0, p0, q0, hargs, rfl, rfl, h0, r0⟩ := trodAll_cons hA
  obtain ⟨v1, vs1, d1, ds1, p1, q1, rfl, rfl, rfl, h1, r1⟩ := trodAll_cons r0
  obtain ⟨v2, vs2, d2, ds2, p2, q2, rfl, rfl, rfl, h2, r2⟩ := trodAll_cons r1
  obtain ⟨rfl, rfl, rfl⟩ := trodAll_nil r2
  obtain rfl : args = #[v0, v1, v2] := by cases args; simp_all
  obtain ⟨rfl, rfl⟩ := trodVars_none hV
  obtain ⟨A0, n0, c0, L0, rfl, hn0, hL0, hf0⟩ := Re.open_recs (hval 0 22 v0 rfl rfl) h0
  obtain ⟨a1, rfl, rfl, rfl, w1⟩ := open_int Try.underlying23 (hval 1 23 v1 rfl rfl) h1
  obtain ⟨a2, rfl, rfl, rfl, w2⟩ := open_int Try.underlying23 (hval 2 23 v2 rfl rfl) h2
  clear hA0 hval0
  try simp only [List.append_nil] at hW'
  try simp only [List.nil_append] at hW'
  have hlt := fun x hx => hW'.lt x hx
  refine (walk P A0 n0 c0 L0 a1 a2 W hL0 hn0 hf0 (u64_of w1) (u64_of w2)).mono fun e W' ⟨he, hg⟩ => ?_
  subst he
  refine ⟨_, rfl, post_mem hW' (fun _ _ _ => (trodAll_cons_mk (shut_bool Try.underlying4 _) trodAll_mk0)) (fun sp hsp => ?_) (fun _ => rfl) hg (ok_one (by kernel_rfl) rfl (okWide_bool_mk Try.underlying4 _))⟩
  have hall := (trodAll_cons_mk (arg_same (sp := sp) laid (by kernel_rfl) (of_decide_eq_true (by kernel_rfl)) h0 hg (by intro x hx; simp_all) hlt hsp) (trodAll_cons_mk (arg_same (sp := sp) laid (by kernel_rfl) (of_decide_eq_true (by kernel_rfl)) h1 hg (by intro x hx; simp_all) hlt hsp) (trodAll_cons_mk (arg_same (sp := sp) laid (by kernel_rfl) (of_decide_eq_true (by kernel_rfl)) h2 hg (by intro x hx; simp_all) hlt hsp) trodAll_mk0)))
  try simp only [List.append_nil] at hall
  try simp only [List.nil_append] at hall
  exact hall

theorem over (P : Prg) : Rows.replayLaterRow.holds Try.pinned (OpenSpec.ofChange Rows.replayLaterSpec) :=
  OpenClaim.holds_of_wide 6 Try.f6 rfl rfl rfl rfl rfl rfl rfl ⟨rfl, rfl, rfl, rfl, rfl⟩ rfl rfl rfl rfl rfl (by kernel_rfl) Try.func6 (by kernel_rfl)
    (of_decide_eq_true (by kernel_rfl)) (by unfold Func.isWrapper; first | (rw [if_pos (by decide +kernel)]; kernel_rfl) | (rw [if_neg (by decide +kernel)]; exact ⟨rfl, rfl⟩))
    (fun os started H enc _ => lifted P os started H enc)

end Go.Proofs.Ytckakkocblkcoaa.replayLater
