/- The document's Advance and Levels. -/
import Derived.Test.YtogfpakopckfoaaWhD
namespace Go.Proofs.Ytogfpakopckfoaa.Wl
open Go.RowKit Go.Lib
open Sp
set_option linter.unusedVariables false
set_option maxRecDepth 100000

section
variable {W w : World} {items : List Sp.Item} {k b : Nat} {s : Wh}
set_option maxHeartbeats 16000000 in
theorem radv_s (h : Sp.Sep W w items) (hk : items[k]? = some (refI b s)) (ok : Ok s.l) (hn : s.l.length ≤ 200) (now : Int) :
    Calls Try.prog 25 #[.pointer (some ⟨b, 0, none⟩), .int .u64 now] w fun e w' => ∃ g q p', e = .returned (.slice (some ⟨g, 0, none⟩) q p') ∧ TR w' (some ⟨g, 0, none⟩) q (dueL s.l (max s.t now)) ∧ Sp.Sep W w' (items.set k (refI b (advW s now))) := by
  obtain ⟨A, n, p, hB, hR, hnp⟩ := ref_at h hk
  have hnl : n ≤ 200 := by rw [hR.len]; exact hn
  obtain ⟨T, hT⟩ : ∃ z, max s.t now = z := ⟨_, rfl⟩
  have HT := Lib.hid hT
  rw [hT]
  have S1 := ref_time h hk hB T
  have e0 : w.setCell ⟨b, 0, none⟩ (.int .u64 T) = w.setRow b #[.int .u64 T, .slice A n p] := set_row hB 0 _
  have a0 : w.cell? ⟨b, 0, none⟩ = some (.int .u64 s.t) := hB.cell 0
  have a1 : w.frozen? ⟨b, 0, none⟩ = false := hB.frozen 0
  have HK1 := Lib.hid (show (items.set k (refI b ⟨T, s.l⟩))[k]? = some (refI b ⟨T, s.l⟩) by rw [List.getElem?_set_self (List.getElem?_eq_some_iff.1 hk).1])
  have HSS := Lib.hid (fun (s' : Wh) => show (items.set k (refI b ⟨T, s.l⟩)).set k (refI b s') = items.set k (refI b s') by rw [List.set_set])
  have HS1 := Lib.hid S1
  have HN := Lib.hid hnl
  have HNP := Lib.hid hnp
  have HOK := Lib.hid ok
  have HB1 := Lib.hid (hB.row #[.int .u64 T, .slice A n p])
  obtain ⟨G, ⟨A0, n0, p0, hB0, _, _, hA0, _⟩, _⟩ := h.at_ k hk
  have hR1 : TR (w.setRow b #[.int .u64 T, .slice A n p]) A n s.l := hR.same (fun a e h0 => by
    have e1 := hB.symm.trans hB0
    simp at e1
    obtain ⟨rfl, rfl, rfl⟩ := e1
    exact setRow_other _ _ _ _ (hA0 a e h0).2)
  have HR := Lib.hid hR1
  clear hR1 hA0 hB0 h hk hB hR hn hnl hnp ok S1 hT
  go_enter Try.func25, Try.ntmps25
  go_upto_region 2 with fail
  rw [HT.out, e0]
  clear a0 a1 e0
  have HB := HB1
  clear HB1
  generalize w.setRow b #[.int .u64 T, .slice A n p] = w1 at *
  go_upto_region 3 with fail
  go_loopg [5] n (fun gk s5 wr => ∃ (q : Nat), q ≤ n ∧ gk = n - q ∧ s5 = .int .i64 (q : Nat) ∧ Hid (Below w1.heap.size w1 wr) ∧ Hid (∀ a ∈ s.l.take q, decide (a.d ≤ T) = true))
  case atStart => exact ⟨0, by omega, rfl, rfl, Lib.hid (Below.refl _ _), Lib.hid (by intro a ha; simp at ha)⟩
  case round =>
    obtain ⟨q, hq, hgk, rfl, HW, HA⟩ := hrel
    have HGK := Lib.hid hgk
    clear hgk
    have I : Below wr.heap.size wr { wr with drawn := wr.drawn + 1 } := (Below.refl _ _).drew
    have hne : Nonempty (In (fun W => Below wr.heap.size wr W)) := ⟨⟨_, I⟩⟩
    have HB2 := Lib.hid (HB.out.later HW.out)
    have f1 : ∀ jj : In (fun W => Below wr.heap.size wr W), jj.W.cell? ⟨b, 1, none⟩ = some (.slice A n p) := fun jj => (HB2.out.later jj.h).cell 1
    have f0 : ∀ jj : In (fun W => Below wr.heap.size wr W), jj.W.cell? ⟨b, 0, none⟩ = some (.int .u64 T) := fun jj => (HB2.out.later jj.h).cell 0
    by_cases hlt : q < n
    · have hli : (q : Int) < (n : Int) := by omega
      obtain ⟨t, ht⟩ : ∃ t, s.l[q]? = some t := ⟨_, List.getElem?_eq_getElem (by rw [← HR.out.len]; exact hlt)⟩
      have HT9 := Lib.hid ht
      have wi : IntKind.i64.wrap ((q : Int) + 1) = (q : Int) + 1 := IntWalk.i64_in _ (by have := HN.out; omega)
      obtain ⟨g, o, rfl, hc⟩ := (HR.out.later HW.out).c (by omega)
      have hc2 := (hc q t ht).2
      have f5 : ∀ jj : In (fun W => Below wr.heap.size wr W), jj.W.cell? ⟨g, o + q * 2 + 1, none⟩ = some (.int .u64 t.d) := fun jj => (jj.h.cell (World.block_lt_of_cell? _ _ hc2)).trans hc2
      clear hc hc2 ht
      by_cases hv : t.d ≤ T
      · have HA2 : Hid (∀ a ∈ s.l.take (q + 1), decide (a.d ≤ T) = true) := Lib.hid (by
          rw [take_one HT9.out]
          intro a h
          rcases List.mem_append.1 h with h | h
          · exact HA.out a h
          · simp at h; subst h; exact decide_eq_true hv)
        go_upto_region 3 with fail
        refine region_class (fun W => Below wr.heap.size wr W) (by kernel_rfl) (by kernel_rfl) I ?_
        repeat (go_big_quiet_step (fail))
        refine wpQuiet_nil ?_
        rintro _ ⟨jj, rfl⟩
        have BE := Lib.hid (HW.out.trans (jj.h.mono HW.out.size))
        clear I hne f0 f1 f5
        generalize jj.W = w4 at *
        clear jj
        clear hv
        go_wp2_with fail
        go_roundg (n - (q + 1))
        case measure => have := HGK.out; omega
        case rel => exact ⟨q + 1, by omega, by have := HGK.out; omega, by go_num, BE, HA2⟩
      · have HEX : Hid (∀ a, s.l[q]? = some a → decide (a.d ≤ T) = false) := Lib.hid (fun a h => by rw [HT9.out] at h; injection h with h; subst h; exact decide_eq_false hv)
        have hv2 : decide (t.d ≤ T) = false := decide_eq_false hv
        go_upto_region 3 with fail
        refine region_class (fun W => Below wr.heap.size wr W) (by kernel_rfl) (by kernel_rfl) I ?_
        repeat (go_big_quiet_step (fail))
        refine wpQuiet_nil ?_
        rintro _ ⟨jj, rfl⟩
        have BE := Lib.hid (HW.out.trans (jj.h.mono HW.out.size))
        clear I hne f0 f1 f5
        generalize jj.W = w4 at *
        clear jj
        clear wi HT9 HGK hlt hli hv hv2
        have HSP := Lib.hid (split_of (p := fun a => decide (a.d ≤ T)) (by have := HR.out.len; omega) HA.out HEX.out)
        have HD : Hid (dueL s.l T = s.l.take q ∧ rest s.l T = s.l.drop q) := Lib.hid (by rw [← HSP.out.1, ← HSP.out.2]; exact ⟨(due_rest HOK.out T).1.symm, (due_rest HOK.out T).2.symm⟩)
        have HL1 : Hid (q = (s.l.take q).length) := Lib.hid (by rw [List.length_take, ← HR.out.len]; omega)
        have HL2 : Hid (n - q = (s.l.drop q).length) := Lib.hid (by rw [List.length_drop, ← HR.out.len])
        clear HSP HEX HA HOK
        have b5 : w4.cell? ⟨b, 1, none⟩ = some (.slice (some ⟨g, o, none⟩) n p) := (HB.out.later BE.out).cell 1
        have S0 : Sp.Sep w4 (w4.alloc (.cells #[] 57)) [rowS 57 2 (.slice (some ⟨w4.heap.size, 0, none⟩) 0 0) 0 []] := rows_lit (Sp.Sep.nil (Below.refl _ _)) 57 2
        have b6 : (w4.alloc (.cells #[] 57)).cell? ⟨b, 1, none⟩ = some (.slice (some ⟨g, o, none⟩) n p) := ((HB.out.later BE.out).later S0.below).cell 1
        have hT0 := ((HR.out.later BE.out).later S0.below).take q (by omega)
        have hq0 : (0 : Int) ≤ (q : Int) := by omega
        have hq1 : (q : Int) ≤ (p : Int) := by have := HNP.out; omega
        have hq2 : q ≤ p := by have := HNP.out; omega
        have hq3 : 0 + q < 1000 := by have := HN.out; omega
        go_upto_region 6 with (refine wp_append_t rfl (.tmp 40) (.tmp 46) rfl rfl (some ⟨g, o, none⟩) q p rfl S0 0 rfl hT0 hq3 ?_; intro g1 p1 v1 h1; have H1 := Lib.hid h1; clear h1)
        have S1 : Sp.Sep w4 v1 [rowS 57 2 (.slice (some ⟨g1, 0, none⟩) q p1) q ((s.l.take q).flatMap tmC)] := by simpa using H1.out
        try simp only [Nat.zero_add]
        have S2 := rows_lit S1 57 2
        have BE2 := Lib.hid (BE.out.trans (S2.below.mono BE.out.size))
        clear H1 S0 hT0 hq0 hq1 hq2 hq3 b5 b6
        have b7 : (v1.alloc (.cells #[] 57)).cell? ⟨b, 1, none⟩ = some (.slice (some ⟨g, o, none⟩) n p) := (HB.out.later BE2.out).cell 1
        obtain ⟨A8, c8, hs8, ht8⟩ := slice_from (some ⟨g, o, none⟩) n p q hq HNP.out
        have hT8 := ht8 _ _ (HR.out.later BE2.out)
        have hq4 : 0 + (n - q) < 1000 := by have := HN.out; omega
        clear ht8 S1
        go_upto_region 7 with (refine wp_append_t rfl (.tmp 49) (.tmp 55) rfl rfl A8 (n - q) c8 rfl S2 1 rfl hT8 hq4 ?_; intro g2 p2 v2 h2; have H2 := Lib.hid h2; have b8 : v2.cell? ⟨b, 1, none⟩ = some (.slice (some ⟨g, o, none⟩) n p) := ((HB.out.later BE.out).later h2.below).cell 1; have f8 : v2.frozen? ⟨b, 1, none⟩ = false := ((HB.out.later BE.out).later h2.below).frozen 1; clear h2)
        have S3 : Sp.Sep w4 v2 [rowS 57 2 (.slice (some ⟨g1, 0, none⟩) q p1) q ((s.l.take q).flatMap tmC), rowS 57 2 (.slice (some ⟨g2, 0, none⟩) (n - q) p2) (n - q) ((s.l.drop q).flatMap tmC)] := by simpa using H2.out
        try simp only [Nat.zero_add]
        have E1 := Lib.hid (ref_store (HS1.out.later BE.out) HK1.out (HB.out.later BE.out) (sep_tail S3) HL2.out)
        have HT3 := TR.of_row S3 (k := 0) rfl HL1.out
        have HT4 : Hid (TR (v2.setCell ⟨b, 1, none⟩ (.slice (some ⟨g2, 0, none⟩) (n - q) p2)) (some ⟨g1, 0, none⟩) q (s.l.take q)) := Lib.hid (HT3.same (fun a e h0 => by
          obtain ⟨H, ⟨_, hH⟩, hHn, _, _⟩ := S3.at_ 0 rfl
          injection e with e
          subst e
          have h5 := hHn g1 ((hH g1).2 (by simp [Value.ownBlock]))
          have h6 := (HB.out.later BE.out).lt
          exact Below.heap_setCell _ _ _ _ (show g1 ≠ b by omega)))
        clear HT3 H2 S2 S3 hq4 hT8 b7
        go_wp2_with fail
        go_ret
        have HAW : advW s now = ⟨T, s.l.drop q⟩ := by unfold advW; rw [HT.out, HD.out.2]
        have h9 := E1.out
        rw [HSS.out] at h9
        rw [HD.out.1, HAW]
        first | exact ⟨g1, q, p1, rfl, HT4.out, h9⟩ | exact ⟨g1, q, ⟨p1, rfl⟩, HT4.out, h9⟩
    · have hli : ¬ ((q : Int) < (n : Int)) := by omega
      have hli2 : decide ((q : Int) < (n : Int)) = false := decide_eq_false hli
      have HEX : Hid (∀ a, s.l[q]? = some a → decide (a.d ≤ T) = false) := Lib.hid (fun a h => by have := (List.getElem?_eq_some_iff.1 h).1; have := HR.out.len; omega)
      go_upto_region 3 with fail
      refine region_class (fun W => Below wr.heap.size wr W) (by kernel_rfl) (by kernel_rfl) I ?_
      repeat (go_big_quiet_step (fail))
      refine wpQuiet_nil ?_
      rintro _ ⟨jj, rfl⟩
      have BE := Lib.hid (HW.out.trans (jj.h.mono HW.out.size))
      clear I hne f0 f1
      generalize jj.W = w4 at *
      clear jj
      clear HGK hli hli2 hlt
      have HSP := Lib.hid (split_of (p := fun a => decide (a.d ≤ T)) (by have := HR.out.len; omega) HA.out HEX.out)
      have HD : Hid (dueL s.l T = s.l.take q ∧ rest s.l T = s.l.drop q) := Lib.hid (by rw [← HSP.out.1, ← HSP.out.2]; exact ⟨(due_rest HOK.out T).1.symm, (due_rest HOK.out T).2.symm⟩)
      have HL1 : Hid (q = (s.l.take q).length) := Lib.hid (by rw [List.length_take, ← HR.out.len]; omega)
      have HL2 : Hid (n - q = (s.l.drop q).length) := Lib.hid (by rw [List.length_drop, ← HR.out.len])
      clear HSP HEX HA HOK
      have b5 : w4.cell? ⟨b, 1, none⟩ = some (.slice A n p) := (HB.out.later BE.out).cell 1
      have S0 : Sp.Sep w4 (w4.alloc (.cells #[] 57)) [rowS 57 2 (.slice (some ⟨w4.heap.size, 0, none⟩) 0 0) 0 []] := rows_lit (Sp.Sep.nil (Below.refl _ _)) 57 2
      have b6 : (w4.alloc (.cells #[] 57)).cell? ⟨b, 1, none⟩ = some (.slice A n p) := ((HB.out.later BE.out).later S0.below).cell 1
      have hT0 := ((HR.out.later BE.out).later S0.below).take q (by omega)
      have hq0 : (0 : Int) ≤ (q : Int) := by omega
      have hq1 : (q : Int) ≤ (p : Int) := by have := HNP.out; omega
      have hq2 : q ≤ p := by have := HNP.out; omega
      have hq3 : 0 + q < 1000 := by have := HN.out; omega
      go_upto_region 6 with (refine wp_append_t rfl (.tmp 40) (.tmp 46) rfl rfl A q p rfl S0 0 rfl hT0 hq3 ?_; intro g1 p1 v1 h1; have H1 := Lib.hid h1; clear h1)
      have S1 : Sp.Sep w4 v1 [rowS 57 2 (.slice (some ⟨g1, 0, none⟩) q p1) q ((s.l.take q).flatMap tmC)] := by simpa using H1.out
      try simp only [Nat.zero_add]
      have S2 := rows_lit S1 57 2
      have BE2 := Lib.hid (BE.out.trans (S2.below.mono BE.out.size))
      clear H1 S0 hT0 hq0 hq1 hq2 hq3 b5 b6
      have b7 : (v1.alloc (.cells #[] 57)).cell? ⟨b, 1, none⟩ = some (.slice A n p) := (HB.out.later BE2.out).cell 1
      obtain ⟨A8, c8, hs8, ht8⟩ := slice_from A n p q hq HNP.out
      have hT8 := ht8 _ _ (HR.out.later BE2.out)
      have hq4 : 0 + (n - q) < 1000 := by have := HN.out; omega
      clear ht8 S1
      go_upto_region 7 with (refine wp_append_t rfl (.tmp 49) (.tmp 55) rfl rfl A8 (n - q) c8 rfl S2 1 rfl hT8 hq4 ?_; intro g2 p2 v2 h2; have H2 := Lib.hid h2; have b8 : v2.cell? ⟨b, 1, none⟩ = some (.slice A n p) := ((HB.out.later BE.out).later h2.below).cell 1; have f8 : v2.frozen? ⟨b, 1, none⟩ = false := ((HB.out.later BE.out).later h2.below).frozen 1; clear h2)
      have S3 : Sp.Sep w4 v2 [rowS 57 2 (.slice (some ⟨g1, 0, none⟩) q p1) q ((s.l.take q).flatMap tmC), rowS 57 2 (.slice (some ⟨g2, 0, none⟩) (n - q) p2) (n - q) ((s.l.drop q).flatMap tmC)] := by simpa using H2.out
      try simp only [Nat.zero_add]
      have E1 := Lib.hid (ref_store (HS1.out.later BE.out) HK1.out (HB.out.later BE.out) (sep_tail S3) HL2.out)
      have HT3 := TR.of_row S3 (k := 0) rfl HL1.out
      have HT4 : Hid (TR (v2.setCell ⟨b, 1, none⟩ (.slice (some ⟨g2, 0, none⟩) (n - q) p2)) (some ⟨g1, 0, none⟩) q (s.l.take q)) := Lib.hid (HT3.same (fun a e h0 => by
        obtain ⟨H, ⟨_, hH⟩, hHn, _, _⟩ := S3.at_ 0 rfl
        injection e with e
        subst e
        have h5 := hHn g1 ((hH g1).2 (by simp [Value.ownBlock]))
        have h6 := (HB.out.later BE.out).lt
        exact Below.heap_setCell _ _ _ _ (show g1 ≠ b by omega)))
      clear HT3 H2 S2 S3 hq4 hT8 b7
      go_wp2_with fail
      go_ret
      have HAW : advW s now = ⟨T, s.l.drop q⟩ := by unfold advW; rw [HT.out, HD.out.2]
      have h9 := E1.out
      rw [HSS.out] at h9
      rw [HD.out.1, HAW]
      first | exact ⟨g1, q, p1, rfl, HT4.out, h9⟩ | exact ⟨g1, q, ⟨p1, rfl⟩, HT4.out, h9⟩

/-! ### Levels -/
def csI (c : Nat → Int) : Array Value := #[.int .i64 (c 0), .int .i64 (c 1), .int .i64 (c 2), .int .i64 (c 3), .int .i64 (c 4)]
theorem csI_get (c : Nat → Int) {j : Nat} (h : j < 5) : (csI c)[j]? = some (.int .i64 (c j)) := by
  match j, h with
  | 0, _ | 1, _ | 2, _ | 3, _ | 4, _ => rfl
theorem csI_set (c : Nat → Int) {j : Nat} (h : j < 5) (x : Int) : (csI c).setIfInBounds j (.int .i64 x) = csI (fun k => if k = j then x else c k) := by
  match j, h with
  | 0, _ | 1, _ | 2, _ | 3, _ | 4, _ => rfl
def cnI (t : Int) (l : List Tm) : Nat → Int := fun k => ((cnt t l k : Nat) : Int)
theorem cnI_snoc (t : Int) (l : List Tm) (a : Tm) : (fun k => if k = lvl t a.d then cnI t l (lvl t a.d) + 1 else cnI t l k) = cnI t (l ++ [a]) := by
  funext k
  unfold cnI
  rw [cnt_snoc]
  by_cases h : lvl t a.d = k
  · subst h; simp
  · rw [if_neg (Ne.symm h), if_neg h]; simp
theorem cnt_le (t : Int) (l : List Tm) (k : Nat) : cnt t l k ≤ l.length := List.countP_le_length
set_option maxHeartbeats 16000000 in
theorem rlev_any {w : World} {b : Nat} {t : Int} {A : Option Addr} {n p : Nat} {L : List Tm} (hB : Sp.Blk w b 29 #[.int .u64 t, .slice A n p]) (hR : TR w A n L) (hn : n ≤ 1000) (ht : 0 ≤ t ∧ t < 18446744073709551616) (hd : ∀ a ∈ L, 0 ≤ a.d ∧ a.d < 18446744073709551616) :
    Calls Try.prog 28 #[.pointer (some ⟨b, 0, none⟩)] w fun e w' => ∃ g, e = .returned (.slice (some ⟨g, 0, none⟩) 5 5) ∧ w.heap.size ≤ g ∧ Sp.Blk w' g 3 (csI (cnI t L)) ∧ Below w.heap.size w w' := by
  have HB := Lib.hid hB
  have HR := Lib.hid hR
  have HN := Lib.hid hn
  have HT := Lib.hid ht
  have HDD := Lib.hid hd
  have S0 : Sp.Sep w (w.alloc (.cells (csI (cnI t [])) 3)) [locI [(w.heap.size, 3, csI (cnI t []))]] := loc_alloc (Sp.Sep.nil (Below.refl _ w)) 3 _
  have hge : w.heap.size ≤ w.heap.size := Nat.le_refl _
  clear hB hR hn ht hd
  go_enter Try.func28, Try.ntmps28
  go_upto_region 3 with fail
  change Code.wp _ _ _ _ (w.alloc (.cells (csI (cnI t [])) 3))
  have HI0 := Lib.hid S0
  clear S0
  generalize w.alloc (.cells (csI (cnI t [])) 3) = w1 at *
  obtain ⟨g, eg⟩ : ∃ z, w.heap.size = z := ⟨_, rfl⟩
  rw [eg] at HI0
  have HG : Hid (w.heap.size ≤ g) := Lib.hid (Nat.le_of_eq eg)
  rw [eg]
  clear eg hge
  go_loopg [4] n (fun gk s4 wr => ∃ (q : Nat), q ≤ n ∧ gk = n - q ∧ s4 = .int .i64 (q : Nat) ∧ Hid (Sp.Sep w wr [locI [(g, 3, csI (cnI t (L.take q)))]]))
  case atStart => exact ⟨0, by omega, rfl, rfl, HI0⟩
  case round =>
    obtain ⟨q, hq, hgk, rfl, HI⟩ := hrel
    have HGK := Lib.hid hgk
    clear hgk HI0
    have b1 : wr.cell? ⟨b, 1, none⟩ = some (.slice A n p) := (HB.out.later HI.out.below).cell 1
    by_cases hlt : q < n
    · have hli : (q : Int) < (n : Int) := by omega
      obtain ⟨a, ha⟩ : ∃ a, L[q]? = some a := ⟨_, List.getElem?_eq_getElem (by rw [← HR.out.len]; exact hlt)⟩
      have HA := Lib.hid ha
      have hda := HDD.out a (List.mem_of_getElem? ha)
      have wi : IntKind.i64.wrap ((q : Int) + 1) = (q : Int) + 1 := IntWalk.i64_in _ (by have := HN.out; omega)
      obtain ⟨g1, o, rfl, hc⟩ := (HR.out.later HI.out.below).c (by omega)
      have hc2 := (hc q a ha).2
      have I : Below wr.heap.size wr { wr with drawn := wr.drawn + 1 } := (Below.refl _ _).drew
      have hne : Nonempty (In (fun W => Below wr.heap.size wr W)) := ⟨⟨_, I⟩⟩
      have HB2 := Lib.hid (HB.out.later HI.out.below)
      have f1 : ∀ jj : In (fun W => Below wr.heap.size wr W), jj.W.cell? ⟨b, 1, none⟩ = some (.slice (some ⟨g1, o, none⟩) n p) := fun jj => (HB2.out.later jj.h).cell 1
      have f0 : ∀ jj : In (fun W => Below wr.heap.size wr W), jj.W.cell? ⟨b, 0, none⟩ = some (.int .u64 t) := fun jj => (HB2.out.later jj.h).cell 0
      have f5 : ∀ jj : In (fun W => Below wr.heap.size wr W), jj.W.cell? ⟨g1, o + q * 2 + 1, none⟩ = some (.int .u64 a.d) := fun jj => (jj.h.cell (World.block_lt_of_cell? _ _ hc2)).trans hc2
      obtain ⟨lv, hlv⟩ : ∃ z, lvl t a.d = z := ⟨_, rfl⟩
      obtain ⟨sl, hsl⟩ : ∃ z, (place t.toNat a.d.toNat).2 = z := ⟨_, rfl⟩
      have hl4 : lv ≤ 4 := by rw [← hlv]; exact (place_lt _ _).1
      have HPL : Hid (∀ W, Calls Try.prog 14 #[.int .u64 t, .int .u64 a.d] W fun e w' => e = .returned (.tuple #[.int .i64 (lv : Nat), .int .i64 (sl : Nat)]) ∧ w' = W) := Lib.hid (fun W => by
        have h1 := rplace_any t.toNat a.d.toNat W (by have := HT.out; omega) (by omega)
        rw [Int.toNat_of_nonneg HT.out.1, Int.toNat_of_nonneg hda.1, hsl] at h1
        rw [← hlv]
        exact h1)
      have HLV := Lib.hid hlv
      clear hc hc2 ha hda hlv hsl
      go_upto_region 5 with fail
      clear b1
      refine region_class (fun W => Below wr.heap.size wr W) (by kernel_rfl) (by kernel_rfl) I ?_
      repeat (go_big_quiet_step (first
        | (go_at_call 14; with_reducible exact class_call _ (fun hi => (HPL.out _).mono fun e w' ⟨he, hw⟩ => ⟨he, hw ▸ hi⟩))))
      refine wpQuiet_nil ?_
      rintro _ ⟨jj, rfl⟩
      have SE := HI.out.later jj.h
      clear I hne f0 f1 f5
      generalize jj.W = w4 at *
      clear jj
      have hbk := loc_blk SE (k := 0) rfl
      obtain ⟨c, hcc⟩ : ∃ z, cnI t (L.take q) = z := ⟨_, rfl⟩
      have hcb : 0 ≤ c lv ∧ c lv ≤ 1000 := by
        rw [← hcc]
        unfold cnI
        have h1 := cnt_le t (L.take q) lv
        rw [List.length_take] at h1
        have := HN.out
        omega
      have HCC := Lib.hid hcc
      rw [hcc] at SE hbk
      have x0 : w4.cell? ⟨g, lv, none⟩ = some (.int .i64 (c lv)) := (hbk.cell lv).trans (csI_get c (by omega))
      have x1 : w4.frozen? ⟨g, lv, none⟩ = false := hbk.frozen lv
      have wc : IntKind.i64.wrap (c lv + 1) = c lv + 1 := IntWalk.i64_in _ (by omega)
      have l5 : (lv : Int) < 5 := by omega
      have l6 : lv < 5 := by omega
      have S5 : Hid (Sp.Sep w (w4.setCell ⟨g, lv, none⟩ (.int .i64 (c lv + 1))) [locI [(g, 3, csI (cnI t (L.take (q + 1))))]]) := Lib.hid (by
        have h1 := loc_cell SE (k := 0) rfl lv (.int .i64 (c lv + 1))
        rw [csI_set c l6] at h1
        have h2 := cnI_snoc t (L.take q) a
        rw [HLV.out, hcc] at h2
        rw [take_one HA.out, ← h2]
        exact h1)
      clear hbk hcc SE hcb
      go_wp2_with fail
      go_roundg (n - (q + 1))
      case measure => have := HGK.out; omega
      case rel => exact ⟨q + 1, by omega, by have := HGK.out; omega, by go_num, S5⟩
    · obtain rfl : n = q := by omega
      have hti : L.take n = L := by rw [HR.out.len, List.take_length]
      have HF := Lib.hid (loc_blk HI.out (k := 0) rfl)
      have HBE := Lib.hid HI.out.below
      rw [hti] at HF
      clear HI hti
      go_wp2_with fail
      go_ret
      exact ⟨g, rfl, HG.out, HF.out, HBE.out⟩
end
end Go.Proofs.Ytogfpakopckfoaa.Wl
