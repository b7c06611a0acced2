/- The document's Cancel. -/
import Derived.Test.YtogfpakopckfoaaWhB
namespace Go.Proofs.Ytogfpakopckfoaa.Wl
open Go.RowKit Go.Lib
open Sp
set_option linter.unusedVariables false
set_option maxRecDepth 100000

section
variable {W w : World} {items : List Sp.Item} {k b : Nat} {s : Wh}
/-- A store of a new list. -/
theorem ref_store (h : Sp.Sep W w items) (hk : items[k]? = some (refI b s)) {w1 : World} {u : Value} {A' : Option Addr} {n' p' : Nat} {L' : List Tm} (hB : Sp.Blk w b 29 #[.int .u64 s.t, u]) (hS : Sp.Sep w w1 [rowS 57 2 (.slice A' n' p') n' (L'.flatMap tmC)]) (hn : n' = L'.length) :
    Sp.Sep W (w1.setCell ⟨b, 1, none⟩ (.slice A' n' p')) (items.set k (refI b ⟨s.t, L'⟩)) := by
  rw [set_row (hB.later hS.below)]
  exact ref_put h hk hS hn s.t
set_option maxHeartbeats 8000000 in
theorem rcan_s (h : Sp.Sep W w items) (hk : items[k]? = some (refI b s)) (ok : Ok s.l) (hn : s.l.length ≤ 300) (i : ByteArray) :
    Calls Try.prog 24 #[.pointer (some ⟨b, 0, none⟩), .string i] w fun e w' => e = .returned (.bool (find s.l i.toList).isSome) ∧ Sp.Sep W w' (items.set k (refI b (canW s i))) := by
  obtain ⟨A, n, p, hB, hR, hnp⟩ := ref_at h hk
  have hnl : n ≤ 300 := by rw [hR.len]; exact hn
  have HF := Lib.hid (rfind_any (p := p) i hB hR (by omega))
  have HS := Lib.hid h
  have HK := Lib.hid hk
  have HB := Lib.hid hB
  have HR := Lib.hid hR
  have HN := Lib.hid hnl
  have b1 : w.cell? ⟨b, 1, none⟩ = some (.slice A n p) := hB.cell 1
  rcases idx_cases ok i.toList with ⟨e1, e2⟩ | ⟨j, t, e1, e2, e3, e4⟩
  · rw [e1] at HF
    have HE : Hid ((find s.l i.toList).isSome = false ∧ canW s i = s) := Lib.hid ⟨by rw [e2]; rfl, by unfold canW; rw [rem_none e2]⟩
    clear e1 e2 hB hR hnp hnl ok hn h hk b1
    go_enter Try.func24, Try.ntmps24
    go_wp2_with fail
    refine HF.out.mono ?_
    rintro e' w' ⟨rfl, rfl⟩
    go_wp2_with fail
    go_ret
    exact ⟨by rw [HE.out.1]; rfl, by rw [HE.out.2, set_same HK.out]; exact HS.out⟩
  · rw [e1] at HF
    have hlt : j < n := by rw [hR.len]; exact (List.getElem?_eq_some_iff.1 e2).1
    have HE : Hid ((find s.l i.toList).isSome = true ∧ canW s i = ⟨s.t, s.l.take j ++ s.l.drop (j + 1)⟩) := Lib.hid ⟨by rw [e4]; rfl, by unfold canW; rw [← e3, rem_at ok e2]⟩
    obtain ⟨g, o, rfl, _⟩ := hR.c (by omega)
    have hj0 : decide ((j : Int) < 0) = false := decide_eq_false (by omega)
    have hj00 : (0 : Int) ≤ (j : Int) := by omega
    have hj1 : ((j : Int) ≤ (p : Int)) := by omega
    have hj2 : ((j : Int) + 1 ≤ (n : Int)) := by omega
    have hj3 : ((n : Int) ≤ (p : Int)) := by omega
    have hjn : j ≤ p := by omega
    have wj : IntKind.i64.wrap ((j : Int) + 1) = (j : Int) + 1 := IntWalk.i64_in _ (by omega)
    have S0 : Sp.Sep w (w.alloc (.cells #[] 57)) [rowS 57 2 (.slice (some ⟨w.heap.size, 0, none⟩) 0 0) 0 []] := rows_lit (Sp.Sep.nil (Below.refl _ _)) 57 2
    have hT0 := (hR.take j (by omega)).later S0.below
    have b2 : (w.alloc (.cells #[] 57)).cell? ⟨b, 1, none⟩ = some (.slice (some ⟨g, o, none⟩) n p) := (hB.later S0.below).cell 1
    have hq1 : 0 + j < 1000 := by omega
    have HNP := Lib.hid hnp
    have HLT := Lib.hid hlt
    have HLN : Hid ((s.l.take j ++ s.l.drop (j + 1)).length = n - 1) := Lib.hid (by rw [List.length_append, List.length_take, List.length_drop, ← hR.len]; omega)
    clear e1 e2 e3 e4 hB hR ok hn h hk hnp
    go_enter Try.func24, Try.ntmps24
    go_wp2_with fail
    refine HF.out.mono ?_
    rintro e' w' ⟨rfl, rfl⟩
    go_upto_region 5 with (refine wp_append_t rfl (.tmp 12) (.tmp 18) rfl rfl _ _ _ rfl S0 0 rfl hT0 hq1 ?_; intro g1 p1 v1 h1; have H1 := Lib.hid h1; clear h1)
    have S4 : Sp.Sep w' v1 [rowS 57 2 (.slice (some ⟨g1, 0, none⟩) j p1) j ((s.l.take j).flatMap tmC)] := by simpa using H1.out
    have b3 : v1.cell? ⟨b, 1, none⟩ = some (.slice (some ⟨g, o, none⟩) n p) := (HB.out.later S4.below).cell 1
    try simp only [Nat.zero_add]
    clear H1 S0 hT0 hq1 b2 b1
    by_cases hpk : p = j + 1
    · subst hpk
      have hq1 : j + 0 < 1000 := by have := HN.out; omega
      have hz1 : n - (j + 1) = 0 := by have := HNP.out; omega
      go_upto_region 6 with (refine wp_append_t (L := []) rfl (.tmp 20) (.tmp 27) rfl rfl (some ⟨g, o, none⟩) 0 0 (by simp [Act.eval]) S4 0 rfl (TR.nil _ _) hq1 ?_; intro g2 p2 v2 h2; have H2 := Lib.hid h2; clear h2)
      have HD : s.l.drop (j + 1) = [] := List.drop_eq_nil_of_le (by have := HR.out.len; omega)
      have S5 : Sp.Sep w' v2 [rowS 57 2 (.slice (some ⟨g2, 0, none⟩) j p2) j ((s.l.take j ++ s.l.drop (j + 1)).flatMap tmC)] := by rw [HD]; simpa using H2.out
      clear HD
      have E1 := Lib.hid (ref_store HS.out HK.out HB.out S5 (by rw [HLN.out]; have := HLT.out; have := HNP.out; omega))
      have b4 : v2.cell? ⟨b, 1, none⟩ = some (.slice (some ⟨g, o, none⟩) n (j + 1)) := (HB.out.later S5.below).cell 1
      have f4 : v2.frozen? ⟨b, 1, none⟩ = false := (HB.out.later S5.below).frozen 1
      clear H2 S4 S5 hq1 b3
      go_wp2_with fail
      go_ret
      exact ⟨by rw [HE.out.1]; rfl, by rw [HE.out.2]; exact E1.out⟩
    · have hpk2 : j + 1 < p := by have := HNP.out; have := HLT.out; omega
      have hq1 : j + (n - (j + 1)) < 1000 := by have := HN.out; omega
      have hT1 := (HR.out.later S4.below).drop (j + 1) (by have := HLT.out; omega)
      go_upto_region 6 with (refine wp_append_t rfl (.tmp 20) (.tmp 27) rfl rfl (some ⟨g, o + (j + 1) * 2, none⟩) (n - (j + 1)) _ rfl S4 0 rfl hT1 hq1 ?_; intro g2 p2 v2 h2; have H2 := Lib.hid h2; clear h2)
      have S5 : Sp.Sep w' v2 [rowS 57 2 (.slice (some ⟨g2, 0, none⟩) (j + (n - (j + 1))) p2) (j + (n - (j + 1))) ((s.l.take j ++ s.l.drop (j + 1)).flatMap tmC)] := by simpa using H2.out
      clear hT1
      have E1 := Lib.hid (ref_store HS.out HK.out HB.out S5 (by rw [HLN.out]; have := HLT.out; have := HNP.out; omega))
      have b4 : v2.cell? ⟨b, 1, none⟩ = some (.slice (some ⟨g, o, none⟩) n p) := (HB.out.later S5.below).cell 1
      have f4 : v2.frozen? ⟨b, 1, none⟩ = false := (HB.out.later S5.below).frozen 1
      clear H2 S4 S5 hq1 b3
      go_wp2_with fail
      go_ret
      exact ⟨by rw [HE.out.1]; rfl, by rw [HE.out.2]; exact E1.out⟩
end
end Go.Proofs.Ytogfpakopckfoaa.Wl
