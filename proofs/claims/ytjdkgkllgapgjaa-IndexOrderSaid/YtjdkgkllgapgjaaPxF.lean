/- The program's unset and set. -/
import Derived.Test.YtjdkgkllgapgjaaPxE
namespace Go.Proofs.Ytjdkgkllgapgjaa.Px
open Go.RowKit Go.Lib Go.Maps
open Re (Rec Key new_cells)
open Ix
open Sp
set_option linter.unusedVariables false
set_option linter.unusedSimpArgs false
set_option maxRecDepth 100000

/-- An entry that may be reckoned. -/
structure Fine (t : St) (a : Nw) (σ : Int) : Prop where
  q : ∃ e, t.q a.s = some e
  s : I64 a.s
  r1 : Sm (t.nn a.s)
  r2 : Sm (t.nl a.s)
  r3 : Sm (t.nz a.s)
  r4 : Sm t.lv
  r5 : Sm σ
  r6 : Sm (σ * a.z)
def unsT (t : St) (k : Key) : St := match t.nw k with
  | some a => (reckT t a (-1)).nwS k none
  | none => t
def setT (t : St) (k : Key) (a : Nw) : St := reckT ((unsT t k).nwS k (some a)) a 1
section
variable {W w w' : World} {items : List Sp.Item} {k : Nat} {t : St}
theorem reck_g (t : St) (a : Nw) (σ : Int) : (reckT t a σ).g = t.g ∧ (reckT t a σ).mn = t.mn ∧ (reckT t a σ).q = t.q ∧ (reckT t a σ).nw = t.nw ∧ (reckT t a σ).fp = t.fp ∧ (reckT t a σ).fc = t.fc ∧ (reckT t a σ).sl = t.sl ∧ (reckT t a σ).sc = t.sc := by
  unfold reckT
  split <;> exact ⟨rfl, rfl, rfl, rfl, rfl, rfl, rfl, rfl⟩
theorem n_look (h : Sp.Sep W w items) (hk : items[k]? = some (mI t)) {i : ByteArray} (hi : i.size ≤ maxLen) :
    (Instr.lookup 56 (.map (some t.mn)) (.string i) true).run Try.prog w = .ok (.tuple #[.agg (enO (t.nw i.toList)), .bool (t.nw i.toList).isSome]) w ∧
    (Instr.lookup 56 (.map (some t.mn)) (.string i) false).run Try.prog w = .ok (.agg (enO (t.nw i.toList))) w := by
  have h1 := MF.look ((mI_at h hk).ok .n) strK Try.underlying56 (Try.zeroValue34 w) (key_str hi)
  have e1 : sF (fun k => (t.nw k).map enV) (.string i.toList) = (t.nw i.toList).map enV := rfl
  rw [e1, Option.isSome_map] at h1
  have e2 : ((t.nw i.toList).map enV).getD (.agg #[.int .u64 0, .int .u64 0, .bool false, .int .i64 0, .int .i64 0, .int .i64 0]) = .agg (enO (t.nw i.toList)) := by
    cases t.nw i.toList <;> rfl
  rw [← e2]
  exact h1
set_option maxHeartbeats 4000000 in
theorem unset_any (h : Sp.Sep W w items) (hk : items[k]? = some (mI t)) {i : ByteArray} (hi : i.size ≤ maxLen) (hF : ∀ a, t.nw i.toList = some a → Fine t a (-1)) :
    Calls Try.prog 27 #[.pointer (some ⟨t.g, 0, none⟩), .string i] w fun x w' => x = .returned (.tuple #[]) ∧ Sp.Sep W w' (items.set k (mI (unsT t i.toList))) := by
  have hl := (n_look h hk hi).1
  have x3 := ix3 h hk
  cases hn : t.nw i.toList with
  | none =>
    rw [hn] at hl
    change _ = Result.ok (Value.tuple #[.agg #[.int .u64 0, .int .u64 0, .bool false, .int .i64 0, .int .i64 0, .int .i64 0], .bool false]) w at hl
    have HS := Lib.hid h
    have HU : Hid (unsT t i.toList = t) := Lib.hid (by unfold unsT; rw [hn])
    have HK := Lib.hid hk
    clear h hk hF hn
    go_enter Try.func27, Try.ntmps27
    go_wp2_with fail
    go_end0
    refine ⟨rfl, ?_⟩
    rw [HU.out, set_same HK.out]
    exact HS.out.alloc _
  | some a =>
    rw [hn] at hl
    change _ = Result.ok (Value.tuple #[.agg (enA a), .bool true]) w at hl
    have FN := hF a hn
    obtain ⟨e, he⟩ := FN.q
    have h2 := loc_alloc h 34 (enA a)
    have HR := Lib.hid (reckon_any (h.alloc (.cells (enA a) 34)) hk a (-1) he FN.s FN.r1 FN.r2 FN.r3 FN.r4 FN.r5 FN.r6)
    have HU : Hid (unsT t i.toList = (reckT t a (-1)).nwS i.toList none) := Lib.hid (by unfold unsT; rw [hn])
    have HK := Lib.hid hk
    have HI := Lib.hid hi
    have G := reck_g t a (-1)
    have HG1 := Lib.hid G.1
    have HG2 := Lib.hid G.2.1
    clear h hk hF hn FN he h2 G hi
    go_enter Try.func27, Try.ntmps27
    go_upto_region 3 with (go_at_call 28; refine HR.out.mono ?_; rintro e3 w3 ⟨rfl, h3⟩; have H3 := Lib.hid h3; clear h3)
    have hk3 := set_at HK.out (mI (reckT t a (-1)))
    obtain ⟨w4, hrun, h4⟩ := nw_del H3.out hk3 HI.out
    have hd := hrun 0
    rw [HG2.out] at hd
    have x4 := ix3 H3.out hk3
    rw [HG1.out, HG2.out] at x4
    rw [List.set_set] at h4
    have H4 := Lib.hid h4
    clear hrun h4 hk3
    go_wp2_with fail
    go_end0
    refine ⟨rfl, ?_⟩
    rw [HU.out]
    exact H4.out
set_option maxHeartbeats 4000000 in
theorem set_any (h : Sp.Sep W w items) (hk : items[k]? = some (mI t)) {i : ByteArray} (hi : i.size ≤ maxLen) (hF : ∀ a, t.nw i.toList = some a → Fine t a (-1)) (a : Nw) (hF2 : Fine (unsT t i.toList) a 1) {L : List Key} (hL : ∀ k, t.nw k ≠ none → k ∈ L) (hn : L.length ≤ 100000) :
    Calls Try.prog 20 #[.pointer (some ⟨t.g, 0, none⟩), .string i, .agg (enA a)] w fun x w' => x = .returned (.tuple #[]) ∧ Sp.Sep W w' (items.set k (mI (setT t i.toList a))) := by
  have h0 := loc_alloc h 34 (enA a)
  have hk0 := app_at (b := locI [(w.heap.size, 34, enA a)]) hk
  have hl0 : (items ++ [locI [(w.heap.size, 34, enA a)]])[items.length]? = some (locI [(w.heap.size, 34, enA a)]) := app_last
  have HU := Lib.hid (unset_any h0 hk0 hi hF)
  have HK := Lib.hid hk
  have HK0 := Lib.hid hk0
  obtain ⟨t1, ht1⟩ : ∃ t1, unsT t i.toList = t1 := ⟨_, rfl⟩
  have HT1 := Lib.hid ht1
  rw [ht1] at HU hF2
  have hg1 : t1.g = t.g ∧ t1.mn = t.mn ∧ (∀ k, t1.nw k ≠ none → k ∈ L) := by
    rw [← ht1]
    unfold unsT
    cases hn : t.nw i.toList with
    | none => exact ⟨rfl, rfl, hL⟩
    | some b =>
      have G := reck_g t b (-1)
      refine ⟨G.1, G.2.1, fun k hk => hL k fun e1 => hk ?_⟩
      show up (reckT t b (-1)).nw _ none k = none
      rw [G.2.2.2.1]
      unfold up
      split
      · rfl
      · exact e1
  have HG1 := Lib.hid hg1.1
  have HG2 := Lib.hid hg1.2.1
  have HSU := Lib.hid hg1.2.2
  have HF2 := Lib.hid hF2
  have HL0 := Lib.hid hl0
  have HI := Lib.hid hi
  have HN := Lib.hid hn
  obtain ⟨nb, hnb⟩ : ∃ nb, w.heap.size = nb := ⟨_, rfl⟩
  rw [hnb] at HU HK0 HL0
  obtain ⟨J, hJ⟩ : ∃ J, items ++ [locI [(nb, 34, enA a)]] = J := ⟨_, rfl⟩
  rw [hJ] at HU HK0 HL0
  have HJ := Lib.hid hJ
  clear h hk hF hF2 hL hn hi h0 hk0 hl0 hg1 ht1 hJ
  go_enter Try.func20, Try.ntmps20
  go_upto_region 2 with (go_at_call 27; refine HU.out.mono ?_; rintro e3 w3 ⟨rfl, h3⟩; have H3 := Lib.hid h3; clear h3)
  have hk3 := set_at HK0.out (mI t1)
  have hl3 := set_far HL0.out (lt_of_at HK.out) (mI t1)
  obtain ⟨w4, hrun, h4⟩ := nw_put H3.out.drew hk3 HI.out a HSU.out HN.out
  change (Instr.mapUpdate 56 (.map (some t1.mn)) (.string i) (.agg (enA a))).run Try.prog w3.drew = .ok () w4 at hrun
  rw [HG2.out] at hrun
  have x3 := ix3 H3.out hk3
  rw [HG1.out, HG2.out] at x3
  have x3' : w3.drew.cell? ⟨t.g, 3, none⟩ = some (.map (some t.mn)) := x3
  have hB := loc_blk H3.out hl3
  have y0 : w3.cell? ⟨nb, 0, none⟩ = some (.int .u64 a.v) := hB.cell 0
  have y1 : w3.cell? ⟨nb, 1, none⟩ = some (.int .u64 a.d) := hB.cell 1
  have y2 : w3.cell? ⟨nb, 2, none⟩ = some (.bool a.b) := hB.cell 2
  have y3 : w3.cell? ⟨nb, 3, none⟩ = some (.int .i64 a.z) := hB.cell 3
  have y4 : w3.cell? ⟨nb, 4, none⟩ = some (.int .i64 a.s) := hB.cell 4
  have y5 : w3.cell? ⟨nb, 5, none⟩ = some (.int .i64 a.p) := hB.cell 5
  have y0' : w3.drew.cell? ⟨nb, 0, none⟩ = some (.int .u64 a.v) := hB.cell 0
  have y1' : w3.drew.cell? ⟨nb, 1, none⟩ = some (.int .u64 a.d) := hB.cell 1
  have y2' : w3.drew.cell? ⟨nb, 2, none⟩ = some (.bool a.b) := hB.cell 2
  have y3' : w3.drew.cell? ⟨nb, 3, none⟩ = some (.int .i64 a.z) := hB.cell 3
  have y4' : w3.drew.cell? ⟨nb, 4, none⟩ = some (.int .i64 a.s) := hB.cell 4
  have y5' : w3.drew.cell? ⟨nb, 5, none⟩ = some (.int .i64 a.p) := hB.cell 5
  have hk4 := set_at hk3 (mI (t1.nwS i.toList (some a)))
  have hl4 := set_far hl3 (lt_of_at HK.out) (mI (t1.nwS i.toList (some a)))
  have hB4 := loc_blk h4 hl4
  have u0 : w4.cell? ⟨nb, 0, none⟩ = some (.int .u64 a.v) := hB4.cell 0
  have u1 : w4.cell? ⟨nb, 1, none⟩ = some (.int .u64 a.d) := hB4.cell 1
  have u2 : w4.cell? ⟨nb, 2, none⟩ = some (.bool a.b) := hB4.cell 2
  have u3 : w4.cell? ⟨nb, 3, none⟩ = some (.int .i64 a.z) := hB4.cell 3
  have u4 : w4.cell? ⟨nb, 4, none⟩ = some (.int .i64 a.s) := hB4.cell 4
  have u5 : w4.cell? ⟨nb, 5, none⟩ = some (.int .i64 a.p) := hB4.cell 5
  obtain ⟨e, he⟩ := HF2.out.q
  have hR := reckon_any h4 hk4 a 1 (e := e) he HF2.out.s HF2.out.r1 HF2.out.r2 HF2.out.r3 HF2.out.r4 HF2.out.r5 HF2.out.r6
  rw [show (t1.nwS i.toList (some a)).g = t.g from HG1.out] at hR
  have HR := Lib.hid hR
  clear hR hk3 hl3 h4 hk4 hl4 hB hB4 he
  go_region_with (first | (go_at_call 28; refine HR.out.mono ?_; rintro e6 w6 ⟨rfl, h6⟩; have H6 := Lib.hid h6; clear h6))
  all_goals (try go_wp2_with (first | (go_at_call 28; refine HR.out.mono ?_; rintro e6 w6 ⟨rfl, h6⟩; have H6 := Lib.hid h6; clear h6)))
  all_goals (
    go_end0
    refine ⟨rfl, ?_⟩
    have h9 := H6.out
    rw [List.set_set, List.set_set, ← HJ.out, app_set HK.out] at h9
    unfold setT
    rw [HT1.out]
    exact loc_drop h9)
end
end Go.Proofs.Ytjdkgkllgapgjaa.Px
