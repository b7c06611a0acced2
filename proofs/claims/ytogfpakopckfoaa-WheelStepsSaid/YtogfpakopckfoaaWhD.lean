/- The document's Set. -/
import Derived.Test.YtogfpakopckfoaaWhC
import Derived.Test.YtogfpakopckfoaaClass
namespace Go.Proofs.Ytogfpakopckfoaa.Wl
open Go.RowKit Go.Lib
open Sp
set_option linter.unusedVariables false
set_option maxRecDepth 100000

/-- Where the first one stands that does not come ahead. -/
theorem split_of {p : Tm → Bool} : ∀ {l : List Tm} {i : Nat}, i ≤ l.length → (∀ a ∈ l.take i, p a = true) → (∀ a, l[i]? = some a → p a = false) → l.takeWhile p = l.take i ∧ l.dropWhile p = l.drop i
  | [], i, h, _, _ => by
    obtain rfl : i = 0 := by simpa using h
    exact ⟨rfl, rfl⟩
  | b :: l, 0, _, _, h => by
    have := h b rfl
    simp [this]
  | b :: l, i + 1, hl, h, k => by
    have hb := h b (by simp)
    obtain ⟨h1, h2⟩ := split_of (l := l) (i := i) (by simpa using hl) (fun a ha => h a (by simp [ha])) (fun a ha => k a (by simpa using ha))
    simp [hb, h1, h2]
theorem TC.blk {w : World} {g : Nat} {T : TypeId} {t : Tm} (h : Sp.Blk w g T (tmA t)) : w.cell? ⟨g, 0, none⟩ = some (.string t.i) ∧ w.cell? ⟨g, 1, none⟩ = some (.int .u64 t.d) := ⟨h.cell 0, h.cell 1⟩

theorem TR.zero {w : World} {A : Option Addr} {n : Nat} {L : List Tm} (h0 : n = 0) (hl : n = L.length) : TR w A n L := ⟨hl, fun h => by omega⟩
/-- 'l[q:]', from a list that can be read. -/
theorem slice_from (A : Option Addr) (n p q : Nat) (hq : q ≤ n) (hp : n ≤ p) : ∃ A8 c8, (∀ w, (Instr.slice 27 (.slice A n p) (some (.int .i64 (q : Nat))) none none).run Try.prog w = .ok (.slice A8 (n - q) c8) w) ∧ ∀ w L, TR w A n L → TR w A8 (n - q) (L.drop q) := by
  refine ⟨if p = q then A else A.map (·.add (q * 2)), p - q, fun w => ?_, fun w L h => ?_⟩
  · have hT : Try.prog.underlying 27 = some (.slice (Try.prog.elem 27)) := by kernel_rfl
    have hr := run_slice_l (P := Try.prog) (w := w) 27 A n p hT .i64 (q : Int) (by omega) (by omega)
    rw [hr]
    have : (sizeOf (Try.prog.elem 27)).run Try.prog w = .ok 2 w := Try.sizeOf57 w
    rw [this]
    simp [sliced, Result.andThen]
  · have hl : n - q = (L.drop q).length := by rw [List.length_drop, ← h.len]
    by_cases h0 : n - q = 0
    · exact TR.zero h0 hl
    · obtain ⟨g, o, rfl, _⟩ := h.c (by omega)
      rw [if_neg (by omega)]
      have e : (some (⟨g, o, none⟩ : Addr)).map (·.add (q * 2)) = some ⟨g, o + q * 2, none⟩ := by
        simp [Addr.add]
      rw [e]
      exact h.drop q hq
section
variable {W w : World} {items : List Sp.Item} {k b : Nat} {s : Wh}
set_option maxHeartbeats 16000000 in
theorem rset_s (h : Sp.Sep W w items) (hk : items[k]? = some (refI b s)) (ok : Ok s.l) (hn : s.l.length ≤ 200) (i : ByteArray) (d : Int) :
    Calls Try.prog 23 #[.pointer (some ⟨b, 0, none⟩), .string i, .int .u64 d] w fun e w' => e = .returned (.bool (find s.l i.toList).isSome) ∧ Sp.Sep W w' (items.set k (refI b (setW s i d))) := by
  have HC := Lib.hid (rcan_s h hk ok (by omega) i)
  have HK := Lib.hid (show (items.set k (refI b (canW s i)))[k]? = some (refI b (canW s i)) by rw [List.getElem?_set_self (List.getElem?_eq_some_iff.1 hk).1])
  have hL : (rem s.l i.toList).length ≤ 200 := Nat.le_trans (List.length_filter_le _ _) hn
  have HSS := Lib.hid (show (items.set k (refI b (canW s i))).set k (refI b (setW s i d)) = items.set k (refI b (setW s i d)) by rw [List.set_set])
  obtain ⟨was, hwas⟩ : ∃ z, (find s.l i.toList).isSome = z := ⟨_, rfl⟩
  rw [hwas] at HC ⊢
  clear h hk hwas
  obtain ⟨s1, hs1⟩ : ∃ z, canW s i = z := ⟨_, rfl⟩
  have HS2 : Hid (setW s i d = ⟨s1.t, ins ⟨i, d⟩ s1.l⟩) := Lib.hid (by rw [← hs1]; rfl)
  have hL1 : s1.l.length ≤ 200 := by rw [← hs1]; exact hL
  rw [hs1] at HC HK HSS
  clear hs1 hL ok hn
  go_enter Try.func23, Try.ntmps23
  go_wp2_with fail
  refine HC.out.mono ?_
  rintro e' w1 ⟨rfl, h1⟩
  obtain ⟨items1, hi1⟩ : ∃ z, items.set k (refI b s1) = z := ⟨_, rfl⟩
  rw [hi1] at h1 HK HSS
  obtain ⟨A, n, p, hB, hR, hnp⟩ := ref_at h1 HK.out
  have hn : n ≤ 200 := by rw [hR.len]; exact hL1
  have H1 := Lib.hid h1
  have HB := Lib.hid hB
  have HR := Lib.hid hR
  have HN := Lib.hid hn
  have HNP := Lib.hid hnp
  have S0 : Sp.Sep w1 ((w1.alloc (.cells #[] 57)).alloc (.cells (tmA ⟨i, d⟩) 57)) [rowS 57 2 (.slice (some ⟨w1.heap.size, 0, none⟩) 0 0) 0 [], locI [(w1.heap.size + 1, 57, tmA ⟨i, d⟩)]] := by
    have := loc_alloc (rows_lit (Sp.Sep.nil (Below.refl _ w1)) 57 2) 57 (tmA ⟨i, d⟩)
    simpa using this
  clear h1 hB hR hn hnp hi1 HC
  go_upto_region 2 with fail
  change Code.wp _ _ _ _ ((w1.alloc (.cells #[] 57)).alloc (.cells (tmA ⟨i, d⟩) 57))
  have HI0 := Lib.hid S0
  clear S0
  generalize ((w1.alloc (.cells #[] 57)).alloc (.cells (tmA ⟨i, d⟩) 57)) = w2 at *
  obtain ⟨g0, eg0⟩ : ∃ z, w1.heap.size = z := ⟨_, rfl⟩
  obtain ⟨tb, etb⟩ : ∃ z, w1.heap.size + 1 = z := ⟨_, rfl⟩
  rw [etb, eg0] at HI0
  rw [etb, eg0]
  clear eg0 etb
  go_upto_region 3 with fail
  go_loopg [9, 10] n (fun gk s9 s10 wr => ∃ (q g' p' : Nat), q ≤ n ∧ gk = n - q ∧ s9 = .slice (some ⟨g', 0, none⟩) q p' ∧ s10 = .int .i64 (q : Nat) ∧ Hid (Sp.Sep w1 wr [rowS 57 2 (.slice (some ⟨g', 0, none⟩) q p') q ((s1.l.take q).flatMap tmC), locI [(tb, 57, tmA ⟨i, d⟩)]]) ∧ Hid (∀ a ∈ s1.l.take q, ahd a ⟨i, d⟩ = true))
  case atStart => exact ⟨0, _, _, by omega, rfl, rfl, rfl, HI0, Lib.hid (by intro a ha; simp at ha)⟩
  case round =>
    obtain ⟨q, g', p', hq, hgk, rfl, rfl, HI, HA⟩ := hrel
    have HGK := Lib.hid hgk
    clear hgk HI0
    have I : Below wr.heap.size wr { wr with drawn := wr.drawn + 1 } := (Below.refl _ _).drew
    have hne : Nonempty (In (fun W => Below wr.heap.size wr W)) := ⟨⟨_, I⟩⟩
    have HB2 := Lib.hid (HB.out.later HI.out.below)
    have HT2 := Lib.hid (loc_blk HI.out (k := 1) rfl)
    have f1 : ∀ jj : In (fun W => Below wr.heap.size wr W), jj.W.cell? ⟨b, 1, none⟩ = some (.slice A n p) := fun jj => (HB2.out.later jj.h).cell 1
    have f2 : ∀ jj : In (fun W => Below wr.heap.size wr W), jj.W.cell? ⟨tb, 0, none⟩ = some (.string i) := fun jj => (HT2.out.later jj.h).cell 0
    have f3 : ∀ jj : In (fun W => Below wr.heap.size wr W), jj.W.cell? ⟨tb, 1, none⟩ = some (.int .u64 d) := fun jj => (HT2.out.later jj.h).cell 1
    by_cases hlt : q < n
    · have hli : (q : Int) < (n : Int) := by omega
      obtain ⟨t, ht⟩ : ∃ t, s1.l[q]? = some t := ⟨_, List.getElem?_eq_getElem (by rw [← HR.out.len]; exact hlt)⟩
      obtain ⟨g, o, rfl, hc⟩ := (HR.out.later HI.out.below).c (by omega)
      have hc2 := hc q t ht
      have f4 : ∀ jj : In (fun W => Below wr.heap.size wr W), jj.W.cell? ⟨g, o + q * 2, none⟩ = some (.string t.i) := fun jj => (jj.h.cell (World.block_lt_of_cell? _ _ hc2.1)).trans hc2.1
      have f5 : ∀ jj : In (fun W => Below wr.heap.size wr W), jj.W.cell? ⟨g, o + q * 2 + 1, none⟩ = some (.int .u64 t.d) := fun jj => (jj.h.cell (World.block_lt_of_cell? _ _ hc2.2)).trans hc2.2
      have wi : IntKind.i64.wrap ((q : Int) + 1) = (q : Int) + 1 := IntWalk.i64_in _ (by have := HN.out; omega)
      have HT := Lib.hid ht
      have HAC := Lib.hid (ahead_any t ⟨i, d⟩)
      clear hc hc2 ht
      cases ha : ahd t ⟨i, d⟩ with
      | true =>
        rw [ha] at HAC
        have HA2 : Hid (∀ a ∈ s1.l.take (q + 1), ahd a ⟨i, d⟩ = true) := Lib.hid (by
          rw [take_one HT.out]
          intro a h
          rcases List.mem_append.1 h with h | h
          · exact HA.out a h
          · simp at h; subst h; exact ha)
        clear ha
        go_upto_region 3 with fail
        refine region_class (fun W => Below wr.heap.size wr W) (by kernel_rfl) (by kernel_rfl) I ?_
        repeat (go_big_quiet_step (first
          | (go_at_call 37; with_reducible exact class_call _ (fun hi => (HAC.out _).mono fun e w' ⟨he, hb⟩ => ⟨he, hi.trans (hb.mono hi.size)⟩))))
        refine wpQuiet_nil ?_
        rintro _ ⟨jj, rfl⟩
        have SE := Lib.hid (HI.out.later jj.h)
        clear I hne f1 f2 f3 f4 f5
        generalize jj.W = w4 at *
        clear jj
        have S := SE.out
        have HZS : (Value.agg #[.string ⟨#[]⟩, .int .u64 0]).cells.size = 2 := rfl
        have HLN1 := tmC_len t
        have HC1 := tm_one t
        have hm : q < 1000 := by have := HN.out; omega
        have b5 : w4.cell? ⟨b, 1, none⟩ = some (.slice (some ⟨g, o, none⟩) n p) := (HB.out.later SE.out.below).cell 1
        have hc3 := (((HR.out.later SE.out.below).drop q hq).c (by omega))
        obtain ⟨g9, o9, e9, hc9⟩ := hc3
        injection e9 with e9
        injection e9 with e9 e10 _
        subst e9 e10
        have z0 := (hc9 0 t (by rw [List.getElem?_drop]; exact HT.out)).1
        have z1 := (hc9 0 t (by rw [List.getElem?_drop]; exact HT.out)).2
        simp only [Nat.zero_mul, Nat.add_zero] at z0 z1
        clear hc9
        go_upto_region 4 with (refine wp_append_s (cs := tmC t) dtm_infos HZS (by decide) (by decide) Try.underlying27 rfl (.tmp 39) (.tmp 47) rfl rfl rfl S 0 rfl hm HLN1 HC1 ?_; intro v3 w15 h15; clear HZS HLN1 HC1; obtain ⟨A9, p9, rfl⟩ := rows_slice h15 (k := 0) rfl; obtain ⟨g8, rfl, _⟩ := rows_cell h15 (k := 0) rfl (by omega); have H15 := Lib.hid h15; clear h15 S z0 z1 b5)
        have H16 : Hid (Sp.Sep w1 w15 [rowS 57 2 (.slice (some ⟨g8, 0, none⟩) (q + 1) p9) (q + 1) ((s1.l.take (q + 1)).flatMap tmC), locI [(tb, 57, tmA ⟨i, d⟩)]]) := Lib.hid (by
          rw [take_one HT.out, List.flatMap_append]
          simpa using H15.out)
        clear H15 SE
        go_wp2_with fail
        go_roundg (n - (q + 1))
        case measure => have := HGK.out; omega
        case rel => exact ⟨q + 1, g8, p9, by omega, by have := HGK.out; omega, rfl, by go_num, H16, HA2⟩
      | false =>
        rw [ha] at HAC
        have HEX : Hid (∀ a, s1.l[q]? = some a → ahd a ⟨i, d⟩ = false) := Lib.hid (fun a h => by rw [HT.out] at h; injection h with h; subst h; exact ha)
        clear ha
        go_upto_region 3 with fail
        refine region_class (fun W => Below wr.heap.size wr W) (by kernel_rfl) (by kernel_rfl) I ?_
        repeat (go_big_quiet_step (first
          | (go_at_call 37; with_reducible exact class_call _ (fun hi => (HAC.out _).mono fun e w' ⟨he, hb⟩ => ⟨he, hi.trans (hb.mono hi.size)⟩))))
        refine wpQuiet_nil ?_
        rintro _ ⟨jj, rfl⟩
        have SE := Lib.hid (HI.out.later jj.h)
        clear I hne f1 f2 f3 f4 f5
        generalize jj.W = w4 at *
        clear jj
        clear wi HT HGK hlt hli
        have HSP := Lib.hid (split_of (p := fun a => ahd a ⟨i, d⟩) (by have := HR.out.len; omega) HA.out HEX.out)
        have HINS : Hid (ins ⟨i, d⟩ s1.l = (s1.l.take q ++ [⟨i, d⟩]) ++ s1.l.drop q) := Lib.hid (by unfold ins; rw [HSP.out.1, HSP.out.2]; simp)
        have HLN : Hid ((ins ⟨i, d⟩ s1.l).length = n + 1) := Lib.hid (by rw [ins_len, ← HR.out.len])
        clear HSP HEX HA
        have bt := loc_blk SE.out (k := 1) rfl
        have y0 := (TC.blk bt).1
        have y1 := (TC.blk bt).2
        have S := SE.out
        clear bt
        have HZS : (Value.agg #[.string ⟨#[]⟩, .int .u64 0]).cells.size = 2 := rfl
        have HLN1 := tmC_len ⟨i, d⟩
        have HC1 := tm_one ⟨i, d⟩
        have hm : q < 1000 := by have := HN.out; omega
        go_upto_region 8 with (refine wp_append_s (cs := tmC ⟨i, d⟩) dtm_infos HZS (by decide) (by decide) Try.underlying27 rfl (.tmp 51) (.tmp 53) rfl rfl rfl S 0 rfl hm HLN1 HC1 ?_; intro v3 w15 h15; clear HZS HLN1 HC1 y0 y1; obtain ⟨A9, p9, rfl⟩ := rows_slice h15 (k := 0) rfl; obtain ⟨g9, rfl, _⟩ := rows_cell h15 (k := 0) rfl (by omega); have H15 := Lib.hid h15; clear h15 S)
        have S15 := H15.out
        have b5 : w15.cell? ⟨b, 1, none⟩ = some (.slice (some ⟨g, o, none⟩) n p) := (HB.out.later S15.below).cell 1
        obtain ⟨A8, c8, hs8, ht8⟩ := slice_from (some ⟨g, o, none⟩) n p q (by omega) HNP.out
        have hT8 := ht8 _ _ (HR.out.later S15.below)
        have hq1 : (q + 1) + (n - q) < 1000 := by have := HN.out; omega
        clear ht8 H15
        have hwq : q ≤ n := by omega
        clear hq
        go_upto_region 9 with (refine wp_append_t rfl (.tmp 55) (.tmp 61) rfl rfl A8 (n - q) c8 rfl S15 0 rfl hT8 hq1 ?_; intro g2 p2 v2 h2; have H2 := Lib.hid h2; clear h2)
        have hql : q + 1 + (n - q) = n + 1 := by omega
        have SF : Sp.Sep w1 v2 [rowS 57 2 (.slice (some ⟨g2, 0, none⟩) (n + 1) p2) (n + 1) ((ins ⟨i, d⟩ s1.l).flatMap tmC)] := by
          have h3 := H2.out
          rw [hql] at h3
          rw [HINS.out, List.flatMap_append, List.flatMap_append]
          have h4 := loc_drop (items := [_]) h3
          simpa using h4
        rw [hql]
        have E1 := Lib.hid (ref_store H1.out HK.out HB.out SF HLN.out.symm)
        have b4 : v2.cell? ⟨b, 1, none⟩ = some (.slice (some ⟨g, o, none⟩) n p) := (HB.out.later SF.below).cell 1
        have f4 : v2.frozen? ⟨b, 1, none⟩ = false := (HB.out.later SF.below).frozen 1
        clear H2 SF S15 b5 hq1 hT8 hql
        go_wp2_with fail
        go_ret
        exact ⟨rfl, by rw [← HSS.out, HS2.out]; exact E1.out⟩
    · have hli : ¬ ((q : Int) < (n : Int)) := by omega
      have hli2 : decide ((q : Int) < (n : Int)) = false := decide_eq_false hli
      have HEX : Hid (∀ a, s1.l[q]? = some a → ahd a ⟨i, d⟩ = false) := Lib.hid (fun a h => by have := (List.getElem?_eq_some_iff.1 h).1; have := HR.out.len; omega)
      go_upto_region 3 with fail
      refine region_class (fun W => Below wr.heap.size wr W) (by kernel_rfl) (by kernel_rfl) I ?_
      repeat (go_big_quiet_step (fail))
      refine wpQuiet_nil ?_
      rintro _ ⟨jj, rfl⟩
      have SE := Lib.hid (HI.out.later jj.h)
      clear I hne f1 f2 f3
      generalize jj.W = w4 at *
      clear jj
      clear HGK hli hli2 hlt
      have HSP := Lib.hid (split_of (p := fun a => ahd a ⟨i, d⟩) (by have := HR.out.len; omega) HA.out HEX.out)
      have HINS : Hid (ins ⟨i, d⟩ s1.l = (s1.l.take q ++ [⟨i, d⟩]) ++ s1.l.drop q) := Lib.hid (by unfold ins; rw [HSP.out.1, HSP.out.2]; simp)
      have HLN : Hid ((ins ⟨i, d⟩ s1.l).length = n + 1) := Lib.hid (by rw [ins_len, ← HR.out.len])
      clear HSP HEX HA
      have bt := loc_blk SE.out (k := 1) rfl
      have y0 := (TC.blk bt).1
      have y1 := (TC.blk bt).2
      have S := SE.out
      clear bt
      have HZS : (Value.agg #[.string ⟨#[]⟩, .int .u64 0]).cells.size = 2 := rfl
      have HLN1 := tmC_len ⟨i, d⟩
      have HC1 := tm_one ⟨i, d⟩
      have hm : q < 1000 := by have := HN.out; omega
      go_upto_region 8 with (refine wp_append_s (cs := tmC ⟨i, d⟩) dtm_infos HZS (by decide) (by decide) Try.underlying27 rfl (.tmp 51) (.tmp 53) rfl rfl rfl S 0 rfl hm HLN1 HC1 ?_; intro v3 w15 h15; clear HZS HLN1 HC1 y0 y1; obtain ⟨A9, p9, rfl⟩ := rows_slice h15 (k := 0) rfl; obtain ⟨g9, rfl, _⟩ := rows_cell h15 (k := 0) rfl (by omega); have H15 := Lib.hid h15; clear h15 S)
      have S15 := H15.out
      have b5 : w15.cell? ⟨b, 1, none⟩ = some (.slice A n p) := (HB.out.later S15.below).cell 1
      obtain ⟨A8, c8, hs8, ht8⟩ := slice_from A n p q (by omega) HNP.out
      have hT8 := ht8 _ _ (HR.out.later S15.below)
      have hq1 : (q + 1) + (n - q) < 1000 := by have := HN.out; omega
      clear ht8 H15
      have hwq : q ≤ n := by omega
      clear hq
      go_upto_region 9 with (refine wp_append_t rfl (.tmp 55) (.tmp 61) rfl rfl A8 (n - q) c8 rfl S15 0 rfl hT8 hq1 ?_; intro g2 p2 v2 h2; have H2 := Lib.hid h2; clear h2)
      have hql : q + 1 + (n - q) = n + 1 := by omega
      have SF : Sp.Sep w1 v2 [rowS 57 2 (.slice (some ⟨g2, 0, none⟩) (n + 1) p2) (n + 1) ((ins ⟨i, d⟩ s1.l).flatMap tmC)] := by
        have h3 := H2.out
        rw [hql] at h3
        rw [HINS.out, List.flatMap_append, List.flatMap_append]
        have h4 := loc_drop (items := [_]) h3
        simpa using h4
      rw [hql]
      have E1 := Lib.hid (ref_store H1.out HK.out HB.out SF HLN.out.symm)
      have b4 : v2.cell? ⟨b, 1, none⟩ = some (.slice A n p) := (HB.out.later SF.below).cell 1
      have f4 : v2.frozen? ⟨b, 1, none⟩ = false := (HB.out.later SF.below).frozen 1
      clear H2 SF S15 b5 hq1 hT8 hql
      go_wp2_with fail
      go_ret
      exact ⟨rfl, by rw [← HSS.out, HS2.out]; exact E1.out⟩
end
end Go.Proofs.Ytogfpakopckfoaa.Wl
