/- The document's Newest. -/
import Derived.Test.YtckakkocblkcoaaReF
import Derived.Sort.Walk0
namespace Go.Proofs.Ytckakkocblkcoaa.Re
open Go.RowKit Go.Lib
open Sp
set_option linter.unusedVariables false
set_option maxRecDepth 100000

theorem ins_split {r : Rec} : ∀ {l : List Rec} {k : Nat}, k ≤ l.length → (∀ j p, j < k → l[j]? = some p → p.key < r.key) → (∀ p, l[k]? = some p → ¬ p.key < r.key) → ins r l = l.take k ++ r :: l.drop k
  | [], k, hk, _, _ => by
    obtain rfl : k = 0 := (by simpa using hk)
    rfl
  | a :: l, 0, _, _, h => by
    unfold ins
    rw [if_neg (h a rfl)]
    rfl
  | a :: l, k + 1, hk, h1, h2 => by
    unfold ins
    rw [if_pos (h1 0 a (by omega) rfl), ins_split (k := k) (by simpa using hk) (fun j p hj hp => h1 (j + 1) p (by omega) (by simpa using hp)) (fun p hp => h2 p (by simpa using hp))]
    rfl
theorem docN_yes {L : List Rec} {i : Nat} {r : Rec} (hr : L[i]? = some r) (h : isNew L i = true) : docN L (i + 1) = ins r (docN L i) := by
  show (match L[i]? with | some r => if isNew L i then ins r (docN L i) else docN L i | none => docN L i) = _
  rw [hr]; simp only; rw [if_pos h]
theorem docN_no {L : List Rec} {i : Nat} (h : isNew L i = false) : docN L (i + 1) = docN L i := by
  show (match L[i]? with | some r => if isNew L i then ins r (docN L i) else docN L i | none => docN L i) = _
  cases L[i]? with
  | none => rfl
  | some r => simp only; rw [if_neg (by rw [h]; decide)]
theorem ins_len (r : Rec) : ∀ l : List Rec, (ins r l).length = l.length + 1
  | [] => rfl
  | a :: l => by
    unfold ins
    split
    · rw [List.length_cons, ins_len r l, List.length_cons]
    · rfl
theorem docN_len (L : List Rec) : ∀ i, (docN L i).length ≤ i
  | 0 => Nat.le_refl _
  | i + 1 => by
    cases hn : isNew L i with
    | false => rw [docN_no hn]; have := docN_len L i; omega
    | true =>
      cases hr : L[i]? with
      | none => unfold docN; rw [hr]; have := docN_len L i; simp only; omega
      | some r => rw [docN_yes hr hn, ins_len]; have := docN_len L i; omega
theorem key_lt {a b : Rec} : Op.bytesLess a.i.toList b.i.toList = decide (a.key < b.key) := Go.Proofs.bytesLess_eq _ _
/-- A record of a row of one's own. -/
theorem row_rc {W w : World} {items : List Sp.Item} {k : Nat} {T : TypeId} {g n p : Nat} {L : List Rec} (h : Sp.Sep W w items) (hk : items[k]? = some (rowS T 7 (.slice (some ⟨g, 0, none⟩) n p) n (L.flatMap rcC))) (hn : n = L.length) {i : Nat} {r : Rec} (hi : L[i]? = some r) : RC w g (i * 7) r := by
  have hlt : i < n := by rw [hn]; exact (List.getElem?_eq_some_iff.1 hi).1
  obtain ⟨g', e, hc⟩ := rows_cell h hk (by omega)
  injection e with e
  injection e with e
  subst e
  exact RC.of fun j hj => by
    rw [hc _ (by have := Nat.mul_le_mul_right 7 (show i + 1 ≤ n by omega); omega)]
    exact flat_get rcC 7 rcC_len L i r j hi hj
theorem row_cap {W w : World} {items : List Sp.Item} {k : Nat} {T : TypeId} {sz g n p : Nat} {xs : List Value} (h : Sp.Sep W w items) (hk : items[k]? = some (rowS T sz (.slice (some ⟨g, 0, none⟩) n p) n xs)) : n ≤ p ∧ xs.length = n * sz := by
  obtain ⟨_, ⟨hrow, _⟩, _⟩ := h.at_ k hk
  rcases hrow.2 with ⟨e, _⟩ | ⟨g', cap, cur, e, _, _, hc, _⟩
  · cases e
  · injection e with _ _ e
    subst e
    exact ⟨hc, hrow.1⟩
theorem flat_one (L : List Rec) : ∀ u ∈ L.flatMap rcC, u.oneCell' = true := by
  intro u hu
  obtain ⟨r, _, h⟩ := List.mem_flatMap.1 hu
  exact rc_one r u h
theorem flat_drop : ∀ (L : List Rec) (k : Nat), (L.drop k).flatMap rcC = (L.flatMap rcC).drop (k * 7)
  | [], k => by simp
  | a :: L, 0 => by simp
  | a :: L, k + 1 => by
    have e1 : (rcC a).drop (7 + k * 7) = [] := List.drop_eq_nil_of_le (by rw [rcC_len]; omega)
    rw [List.drop_succ_cons, flat_drop L k, List.flatMap_cons, show (k + 1) * 7 = 7 + k * 7 by omega, List.drop_append, e1, rcC_len, show 7 + k * 7 - 7 = k * 7 by omega, List.nil_append]
structure newest_step (L : List Rec) (i : Nat) (r : Rec) (k : Nat) : Prop where
  hn : isNew L i = true
  hr : L[i]? = some r
  hk : k ≤ (docN L i).length
  lt : ∀ j q, j < k → (docN L i)[j]? = some q → q.key < r.key
  st : ∀ p, (docN L i)[k]? = some p → ¬ p.key < r.key
theorem newest_step.is {L : List Rec} {i : Nat} {r : Rec} {k : Nat} (h : newest_step L i r k) : docN L (i + 1) = (docN L i).take k ++ r :: (docN L i).drop k := by
  rw [docN_yes h.hr h.hn, ins_split h.hk h.lt h.st]
theorem newest_step.len {L : List Rec} {i : Nat} {r : Rec} {k : Nat} (h : newest_step L i r k) : (docN L (i + 1)).length = (docN L i).length + 1 := by
  rw [docN_yes h.hr h.hn, ins_len]
theorem newest_step.eq {L : List Rec} {i : Nat} {r : Rec} {k : Nat} (h : newest_step L i r k) : (docN L (i + 1)).flatMap rcC = (((docN L i).take k).flatMap rcC ++ rcC r) ++ ((docN L i).drop k).flatMap rcC := by
  rw [h.is, List.flatMap_append, List.flatMap_cons, List.append_assoc]
theorem src_cells {W w : World} {items : List Sp.Item} {k : Nat} {T : TypeId} {g n p : Nat} {L : List Rec} (h : Sp.Sep W w items) (hk : items[k]? = some (rowS T 7 (.slice (some ⟨g, 0, none⟩) n p) n (L.flatMap rcC))) {i : Nat} : ∀ j u, ((L.drop i).flatMap rcC)[j]? = some u → w.cell? ((⟨g, i * 7, none⟩ : Addr).add j) = some u := fun j u hu => by
  rw [flat_drop, List.getElem?_drop] at hu
  have hlt := (List.getElem?_eq_some_iff.1 hu).1
  rw [(row_cap h hk).2] at hlt
  obtain ⟨g', e, hc⟩ := rows_cell h hk (by omega)
  injection e with e
  injection e with e
  subst e
  rw [show (⟨g, i * 7, none⟩ : Addr).add j = ⟨g, i * 7 + j, none⟩ by unfold Addr.add; by_cases h : j = 0 <;> simp [h]]
  exact (hc _ hlt).trans hu
set_option maxHeartbeats 32000000 in
theorem rnewest_s {w : World} {A : Option Addr} {n p : Nat} {L : List Rec} (h : RR w A n L) (hn : n ≤ 400) :
    Calls Try.prog 13 #[.slice A n p] w fun e w' => ∃ g' p', e = .returned (.slice (some ⟨g', 0, none⟩) (newest L).length p') ∧ Sp.Sep w w' [rowS 50 7 (.slice (some ⟨g', 0, none⟩) (newest L).length p') (newest L).length ((newest L).flatMap rcC)] := by
  have HR := Lib.hid h
  have HN := Lib.hid hn
  have S1 : Sp.Sep w (w.alloc (.cells #[] 50)) [rowS 50 7 (.slice (some ⟨w.heap.size, 0, none⟩) 0 0) 0 []] := rows_lit (Sp.Sep.nil (Below.refl _ _)) 50 7
  clear h hn
  go_enter Try.func13, Try.ntmps13
  go_upto_region 2 with fail
  change Code.wp _ _ _ _ (w.alloc (.cells #[] 50))
  have HI0 := Lib.hid S1
  clear S1
  obtain ⟨b0, e0⟩ : ∃ z, w.heap.size = z := ⟨_, rfl⟩
  rw [e0] at HI0 ⊢
  clear e0
  generalize w.alloc (.cells #[] 50) = w1 at *
  go_wp2_with fail
  go_loopg [3, 4] n (fun gk s3 s4 wr => ∃ (i : Nat) (g' p' m : Nat), i ≤ n ∧ gk = n - i ∧ s3 = .slice (some ⟨g', 0, none⟩) m p' ∧ s4 = .int .i64 (i : Nat) ∧ Hid (m = (docN L i).length ∧ Sp.Sep w wr [rowS 50 7 (.slice (some ⟨g', 0, none⟩) m p') m ((docN L i).flatMap rcC)]))
  case atStart => exact ⟨0, _, _, 0, by omega, rfl, rfl, rfl, Lib.hid ⟨rfl, HI0.out⟩⟩
  case round =>
    obtain ⟨i, g', p', m, hi, hgk, rfl, rfl, HI⟩ := hrel
    have HGK := Lib.hid hgk
    clear hgk HI0
    have hm : m ≤ i := by rw [HI.out.1]; exact docN_len L i
    by_cases hlt : i < n
    · have hli : (i : Int) < (n : Int) := by omega
      obtain ⟨r, hr⟩ : ∃ r, L[i]? = some r := ⟨_, List.getElem?_eq_getElem (by rw [← HR.out.len]; exact hlt)⟩
      obtain ⟨bb, hbb⟩ : ∃ z, isNew L i = z := ⟨_, rfl⟩
      have HIS := Lib.hid (is_is (p := p) (HR.out.later HI.out.2.below) hr (by have := HN.out; omega) hbb)
      have wi : IntKind.i64.wrap ((i : Int) + 1) = (i : Int) + 1 := IntWalk.i64_in _ (by have := HN.out; omega)
      have HBB := Lib.hid hbb
      have HRR := Lib.hid hr
      have HLT := Lib.hid hlt
      have HM := Lib.hid hm
      clear hbb hr hlt hm
      go_wp2_with fail
      refine HIS.out.mono ?_
      rintro e' w2 ⟨rfl, hb⟩
      have S2 := Lib.hid (HI.out.2.later hb)
      clear HIS hb
      cases bb with
      | false =>
        go_wp2_with fail
        go_roundg (n - (i + 1))
        case measure => have := HGK.out; have := HLT.out; omega
        case rel => exact ⟨i + 1, g', p', m, by have := HLT.out; omega, by have := HGK.out; omega, rfl, by go_num, Lib.hid (by rw [docN_no HBB.out]; exact ⟨HI.out.1, S2.out⟩)⟩
      | true =>
        have S3 := rows_lit S2.out 50 7
        go_upto_region 7 with fail
        change Code.wp _ _ _ _ (w2.alloc (.cells #[] 50))
        have HJ0 := Lib.hid S3
        clear S3 S2
        obtain ⟨b5, e5⟩ : ∃ z, w2.heap.size = z := ⟨_, rfl⟩
        rw [e5] at HJ0 ⊢
        clear e5
        generalize w2.alloc (.cells #[] 50) = w3 at *
        go_wp2_with fail
        have HOUT := Lib.hid HI.out.1
        go_loopg [5, 6] m (fun gk s5 s6 wr => ∃ (k g5 p5 : Nat), k ≤ m ∧ gk = m - k ∧ s5 = .slice (some ⟨g5, 0, none⟩) k p5 ∧ s6 = .int .i64 (k : Nat) ∧ Hid ((∀ j q, j < k → (docN L i)[j]? = some q → q.key < r.key) ∧ Sp.Sep w wr [rowS 50 7 (.slice (some ⟨g', 0, none⟩) m p') m ((docN L i).flatMap rcC), rowS 50 7 (.slice (some ⟨g5, 0, none⟩) k p5) k (((docN L i).take k).flatMap rcC)]))
        case atStart => exact ⟨0, _, _, by omega, rfl, rfl, rfl, Lib.hid ⟨fun j q hj => by omega, HJ0.out⟩⟩
        case round =>
          obtain ⟨k, g5, p5, hk, hgk, rfl, rfl, HJ⟩ := hrel
          have HGJ := Lib.hid hgk
          clear hgk HJ0
          obtain ⟨g, o, rfl, hc⟩ := HR.out.rc (by have := HLT.out; omega)
          have Rr := (hc i r HRR.out).later HJ.out.2.below
          clear hc
          have x0 := fun q => show (wr.drewN q).cell? _ = _ from Rr.c0
          have x1 := fun q => show (wr.drewN q).cell? _ = _ from Rr.c1
          have x2 := fun q => show (wr.drewN q).cell? _ = _ from Rr.c2
          have x3 := fun q => show (wr.drewN q).cell? _ = _ from Rr.c3
          have x4 := fun q => show (wr.drewN q).cell? _ = _ from Rr.c4
          have x5 := fun q => show (wr.drewN q).cell? _ = _ from Rr.c5
          have x6 := fun q => show (wr.drewN q).cell? _ = _ from Rr.c6
          have z5 := Rr.c5
          have SN : Hid (∀ q, Sp.Sep w (wr.drewN q) [rowS 50 7 (.slice (some ⟨g', 0, none⟩) m p') m ((docN L i).flatMap rcC), rowS 50 7 (.slice (some ⟨g5, 0, none⟩) k p5) k (((docN L i).take k).flatMap rcC)]) := Lib.hid (fun q => HJ.out.2.later (below_drewN (Below.refl _ _) q))
          have hli2 : (i : Int) < (n : Int) := by have := HLT.out; omega
          clear Rr
          by_cases hkm : k < m
          · have hkmi : (k : Int) < (m : Int) := by omega
            obtain ⟨q, hq⟩ : ∃ q, (docN L i)[k]? = some q := ⟨_, List.getElem?_eq_getElem (by rw [← HOUT.out]; exact hkm)⟩
            have Rq := row_rc HJ.out.2 (k := 0) rfl HOUT.out hq
            have y0 := fun q => show (wr.drewN q).cell? _ = _ from Rq.c0
            have y1 := fun q => show (wr.drewN q).cell? _ = _ from Rq.c1
            have y2 := fun q => show (wr.drewN q).cell? _ = _ from Rq.c2
            have y3 := fun q => show (wr.drewN q).cell? _ = _ from Rq.c3
            have y4 := fun q => show (wr.drewN q).cell? _ = _ from Rq.c4
            have y5 := fun q => show (wr.drewN q).cell? _ = _ from Rq.c5
            have y6 := fun q => show (wr.drewN q).cell? _ = _ from Rq.c6
            have v5 := Rq.c5
            obtain ⟨bl, hbl⟩ : ∃ z, decide (q.key < r.key) = z := ⟨_, rfl⟩
            have qk : Op.bytesLess q.i.toList r.i.toList = bl := key_lt.trans hbl
            have HBL := Lib.hid hbl
            have HQ := Lib.hid hq
            clear hbl hq Rq
            go_upto_region 8 with fail
            cases bl with
            | true =>
              go_quiet (fail)
              clear x0 x1 x2 x3 x4 x5 x6 z5 v5 qk
              have hk1000 : k + 1 < 1000 := by have := HN.out; have := HM.out; omega
              have HZS : (Value.agg #[.int .u64 0, .int .u32 0, .int .i64 0, .int .u64 0, .int .u64 0, .string ⟨#[]⟩, .string ⟨#[]⟩]).cells.size = 7 := rfl
              have HLN := rcC_len q
              have HC1 := rc_one q
              go_upto_region 9 with (refine wp_append_l (cs := rcC q) rrec_infos HZS (by decide) (by decide) Try.underlying26 rfl (.tmp 39) (.tmp 44) rfl rfl _ 1 1 rfl ((SN.out _).alloc _) 1 rfl hk1000 HLN (new_cells _ _ _) HC1 ?_; intro g9 p9 w15 h15; clear HZS HLN HC1 y0 y1 y2 y3 y4 y5 y6; have H15 := Lib.hid h15; clear h15)
              have wk : IntKind.i64.wrap ((k : Int) + 1) = (k : Int) + 1 := IntWalk.i64_in _ (by omega)
              have H16 : Hid (Sp.Sep w w15 [rowS 50 7 (.slice (some ⟨g', 0, none⟩) m p') m ((docN L i).flatMap rcC), rowS 50 7 (.slice (some ⟨g9, 0, none⟩) (k + 1) p9) (k + 1) (((docN L i).take (k + 1)).flatMap rcC)]) := Lib.hid (by
                rw [take_one HQ.out, List.flatMap_append]
                simpa using H15.out)
              clear H15
              go_wp2_with fail
              go_roundg (m - (k + 1))
              case measure => have := HGJ.out; omega
              case rel => exact ⟨k + 1, g9, p9, by omega, by have := HGJ.out; omega, rfl, by go_num, Lib.hid ⟨fun j q' hj hq' => by
                rcases Nat.lt_or_ge j k with h | h
                · exact HJ.out.1 j q' h hq'
                · obtain rfl : j = k := by omega
                  rw [HQ.out] at hq'
                  injection hq' with hq'
                  subst hq'
                  simpa using HBL.out, H16.out⟩⟩
            | false =>
              have HST : Hid (∀ p, (docN L i)[k]? = some p → ¬ p.key < r.key) := Lib.hid (fun p hp => by
                rw [HQ.out] at hp
                injection hp with hp
                subst hp
                simpa using HBL.out)
              go_quiet (fail)
              clear y0 y1 y2 y3 y4 y5 y6 v5 qk z5 hkmi
              have hk1000 : k + 1 < 1000 := by have := HN.out; have := HM.out; omega
              have HZS : (Value.agg #[.int .u64 0, .int .u32 0, .int .i64 0, .int .u64 0, .int .u64 0, .string ⟨#[]⟩, .string ⟨#[]⟩]).cells.size = 7 := rfl
              have HLN := rcC_len r
              have HC1 := rc_one r
              go_upto_region 13 with (refine wp_append_l (cs := rcC r) rrec_infos HZS (by decide) (by decide) Try.underlying26 rfl (.tmp 48) (.tmp 53) rfl rfl _ 1 1 rfl ((SN.out _).alloc _) 1 rfl hk1000 HLN (new_cells _ _ _) HC1 ?_; intro g9 p9 w15 h15; clear HLN HC1 x0 x1 x2 x3 x4 x5 x6; have H15 := Lib.hid h15; clear h15)
              have hkm2 : (k : Int) ≤ (m : Int) := by omega
              have hcp := row_cap H15.out (k := 0) rfl
              have hmk : k + 1 + (m - k) < 1000 := by have := HN.out; have := HM.out; omega
              have HLT2 := HLT.out
              have HNX : Hid (newest_step L i r k) := Lib.hid ⟨HBB.out, HRR.out, by rw [← HOUT.out]; exact hk, HJ.out.1, HST.out⟩
              by_cases hpk : p' = k
              · obtain rfl : k = m := by omega
                obtain hpk := hpk.symm; subst hpk
                go_upto_region 14 with (refine wp_append_l (cs := []) rrec_infos HZS (by decide) (by decide) Try.underlying26 rfl (.tmp 55) (.tmp 58) rfl rfl ⟨g', 0, none⟩ 0 0 (by simp [Act.eval]) H15.out 1 rfl (by omega) rfl (by intro j u hu; simp at hu) (by intro u hu; simp at hu) ?_; intro g8 p8 w16 h16; have H16 := Lib.hid h16; clear h16)
                have H17 : Hid (k + 1 = (docN L (i + 1)).length ∧ Sp.Sep w w16 [rowS 50 7 (.slice (some ⟨g8, 0, none⟩) (k + 1) p8) (k + 1) ((docN L (i + 1)).flatMap rcC)]) := Lib.hid ⟨by rw [HNX.out.len, ← HOUT.out], by
                  rw [HNX.out.eq, show (docN L i).drop k = [] from List.drop_eq_nil_of_le (by rw [← HOUT.out]; exact Nat.le_refl _)]
                  have := sep_tail H16.out
                  simpa using this⟩
                clear H15 H16 HZS
                go_wp2_with fail
                go_roundg (n - (i + 1))
                case measure => have := HGK.out; omega
                case rel => exact ⟨i + 1, g8, p8, k + 1, by omega, by have := HGK.out; omega, rfl, by go_num, H17⟩
              · have hpk2 : k < p' := by omega
                have HL2 : (((docN L i).drop k).flatMap rcC).length = (m - k) * 7 := by rw [flat_len rcC 7 rcC_len, List.length_drop, ← HOUT.out]
                have HCC := src_cells H15.out (k := 0) (i := k) rfl
                have HC2 := flat_one ((docN L i).drop k)
                go_upto_region 14 with (refine wp_append_l (cs := ((docN L i).drop k).flatMap rcC) rrec_infos HZS (by decide) (by decide) Try.underlying26 rfl (.tmp 55) (.tmp 58) rfl rfl ⟨g', k * 7, none⟩ (m - k) _ rfl H15.out 1 rfl hmk HL2 HCC HC2 ?_; intro g8 p8 w16 h16; have H16 := Lib.hid h16; clear h16)
                have hkk : k + 1 + (m - k) = m + 1 := by omega
                have H17 : Hid (m + 1 = (docN L (i + 1)).length ∧ Sp.Sep w w16 [rowS 50 7 (.slice (some ⟨g8, 0, none⟩) (m + 1) p8) (m + 1) ((docN L (i + 1)).flatMap rcC)]) := Lib.hid ⟨by rw [HNX.out.len, ← HOUT.out], by
                  rw [HNX.out.eq]
                  have := sep_tail H16.out
                  rw [hkk] at this
                  simpa using this⟩
                clear H15 H16 HZS HL2 HCC HC2
                go_wp2_with fail
                try rw [hkk]
                go_roundg (n - (i + 1))
                case measure => have := HGK.out; omega
                case rel => exact ⟨i + 1, g8, p8, m + 1, by omega, by have := HGK.out; omega, by first | rfl | rw [hkk], by go_num, H17⟩
          · have hkmi : ¬ (k : Int) < (m : Int) := by omega
            have HST : Hid (∀ p, (docN L i)[k]? = some p → ¬ p.key < r.key) := Lib.hid (fun p hp => by
              have := (List.getElem?_eq_some_iff.1 hp).1
              rw [← HOUT.out] at this
              omega)
            go_upto_region 8 with fail
            go_quiet (fail)
            clear z5 hkmi
            have hk1000 : k + 1 < 1000 := by have := HN.out; have := HM.out; omega
            have HZS : (Value.agg #[.int .u64 0, .int .u32 0, .int .i64 0, .int .u64 0, .int .u64 0, .string ⟨#[]⟩, .string ⟨#[]⟩]).cells.size = 7 := rfl
            have HLN := rcC_len r
            have HC1 := rc_one r
            go_upto_region 13 with (refine wp_append_l (cs := rcC r) rrec_infos HZS (by decide) (by decide) Try.underlying26 rfl (.tmp 48) (.tmp 53) rfl rfl _ 1 1 rfl ((SN.out _).alloc _) 1 rfl hk1000 HLN (new_cells _ _ _) HC1 ?_; intro g9 p9 w15 h15; clear HLN HC1 x0 x1 x2 x3 x4 x5 x6; have H15 := Lib.hid h15; clear h15)
            have hkm2 : (k : Int) ≤ (m : Int) := by omega
            have hcp := row_cap H15.out (k := 0) rfl
            have hmk : k + 1 + (m - k) < 1000 := by have := HN.out; have := HM.out; omega
            have HLT2 := HLT.out
            have HNX : Hid (newest_step L i r k) := Lib.hid ⟨HBB.out, HRR.out, by rw [← HOUT.out]; exact hk, HJ.out.1, HST.out⟩
            by_cases hpk : p' = k
            · obtain rfl : k = m := by omega
              obtain hpk := hpk.symm; subst hpk
              go_upto_region 14 with (refine wp_append_l (cs := []) rrec_infos HZS (by decide) (by decide) Try.underlying26 rfl (.tmp 55) (.tmp 58) rfl rfl ⟨g', 0, none⟩ 0 0 (by simp [Act.eval]) H15.out 1 rfl (by omega) rfl (by intro j u hu; simp at hu) (by intro u hu; simp at hu) ?_; intro g8 p8 w16 h16; have H16 := Lib.hid h16; clear h16)
              have H17 : Hid (k + 1 = (docN L (i + 1)).length ∧ Sp.Sep w w16 [rowS 50 7 (.slice (some ⟨g8, 0, none⟩) (k + 1) p8) (k + 1) ((docN L (i + 1)).flatMap rcC)]) := Lib.hid ⟨by rw [HNX.out.len, ← HOUT.out], by
                rw [HNX.out.eq, show (docN L i).drop k = [] from List.drop_eq_nil_of_le (by rw [← HOUT.out]; exact Nat.le_refl _)]
                have := sep_tail H16.out
                simpa using this⟩
              clear H15 H16 HZS
              go_wp2_with fail
              go_roundg (n - (i + 1))
              case measure => have := HGK.out; omega
              case rel => exact ⟨i + 1, g8, p8, k + 1, by omega, by have := HGK.out; omega, rfl, by go_num, H17⟩
            · have hpk2 : k < p' := by omega
              have HL2 : (((docN L i).drop k).flatMap rcC).length = (m - k) * 7 := by rw [flat_len rcC 7 rcC_len, List.length_drop, ← HOUT.out]
              have HCC := src_cells H15.out (k := 0) (i := k) rfl
              have HC2 := flat_one ((docN L i).drop k)
              go_upto_region 14 with (refine wp_append_l (cs := ((docN L i).drop k).flatMap rcC) rrec_infos HZS (by decide) (by decide) Try.underlying26 rfl (.tmp 55) (.tmp 58) rfl rfl ⟨g', k * 7, none⟩ (m - k) _ rfl H15.out 1 rfl hmk HL2 HCC HC2 ?_; intro g8 p8 w16 h16; have H16 := Lib.hid h16; clear h16)
              have hkk : k + 1 + (m - k) = m + 1 := by omega
              have H17 : Hid (m + 1 = (docN L (i + 1)).length ∧ Sp.Sep w w16 [rowS 50 7 (.slice (some ⟨g8, 0, none⟩) (m + 1) p8) (m + 1) ((docN L (i + 1)).flatMap rcC)]) := Lib.hid ⟨by rw [HNX.out.len, ← HOUT.out], by
                rw [HNX.out.eq]
                have := sep_tail H16.out
                rw [hkk] at this
                simpa using this⟩
              clear H15 H16 HZS HL2 HCC HC2
              go_wp2_with fail
              try rw [hkk]
              go_roundg (n - (i + 1))
              case measure => have := HGK.out; omega
              case rel => exact ⟨i + 1, g8, p8, m + 1, by omega, by have := HGK.out; omega, by first | rfl | rw [hkk], by go_num, H17⟩
    · obtain rfl : n = i := by omega
      have hti : docN L n = newest L := by unfold newest; rw [HR.out.len]
      have H1 := HI.out
      rw [hti] at H1
      have HF := Lib.hid H1
      clear HI hti H1 hm
      have E : Ending.returned (Value.slice (some ⟨g', 0, none⟩) m p') = .returned (.slice (some ⟨g', 0, none⟩) (newest L).length p') := by rw [← HF.out.1]
      have HG : Hid (Sp.Sep w wr [rowS 50 7 (.slice (some ⟨g', 0, none⟩) (newest L).length p') (newest L).length ((newest L).flatMap rcC)]) := Lib.hid (by rw [← HF.out.1]; exact HF.out.2)
      go_wp2_with fail
      go_ret
      first | exact ⟨g', p', E, HG.out⟩ | exact ⟨g', ⟨p', E⟩, HG.out⟩
theorem rnewest_any {w : World} {A : Option Addr} {n p : Nat} {L : List Rec} (h : RR w A n L) (hn : n ≤ 400) :
    Calls Try.prog 13 #[.slice A n p] w fun e w' => ∃ A' p', e = .returned (.slice A' (newest L).length p') ∧ RR w' A' (newest L).length (newest L) ∧ Below w.heap.size w w' :=
  (rnewest_s h hn).mono fun e w' ⟨g', p', he, hs⟩ => ⟨_, p', he, RR.of_row hs (k := 0) rfl rfl, hs.below⟩
end Go.Proofs.Ytckakkocblkcoaa.Re
