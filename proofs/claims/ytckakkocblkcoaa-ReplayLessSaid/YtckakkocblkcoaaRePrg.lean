/- The sort of the newest records by their ids, and all that the statements ask of the program's three functions. -/
import Derived.Test.YtckakkocblkcoaaReI
import Derived.Test.YtckakkocblkcoaaReX
import Derived.Test.YtckakkocblkcoaaSrt
import Derived.Shelf.SlSortCmp.NoneTotal
namespace Go.Proofs.Ytckakkocblkcoaa.Re
open Go.RowKit Go.Lib Go.Maps
open Sp
set_option linter.unusedVariables false
set_option maxRecDepth 100000

def cmpK (x y : Rec) : Int := Lib.compareBytes x.i.data.toList y.i.data.toList
theorem bytes_lt : ∀ a b : List UInt8, decide (Lib.compareBytes a b < 0) = decide (a < b)
  | [], [] => rfl
  | [], _ :: _ => by simp [Lib.compareBytes]
  | _ :: _, [] => by simp [Lib.compareBytes]
  | a :: xs, b :: ys => by
    unfold Lib.compareBytes
    by_cases h1 : a < b
    · simp [h1, List.cons_lt_cons_iff]
    · by_cases h2 : b < a
      · have h3 : a ≠ b := fun e => by subst e; exact h1 h2
        have h4 : ¬ (a :: xs < b :: ys) := by rw [List.cons_lt_cons_iff]; rintro (h | h); exact h1 h; exact h3 h.1
        rw [decide_eq_false h4]
        simp [h1, h2]
      · have h3 : a = b := UInt8.le_antisymm (UInt8.not_lt.1 h2) (UInt8.not_lt.1 h1)
        subst h3
        simp [bytes_lt xs ys]
theorem lt_key (x y : Rec) : ltOf cmpK x y = decide (x.key < y.key) := by
  unfold ltOf cmpK
  rw [bytes_lt, show x.key = x.i.data.toList from Lib.toList_data _, show y.key = y.i.data.toList from Lib.toList_data _]
theorem swoK : Sort.SWO (ltOf cmpK) where
  irrefl x := by rw [lt_key]; simp [key_irr]
  trans x y z h1 h2 := by
    rw [lt_key] at *
    exact decide_eq_true (key_trans (of_decide_eq_true h1) (of_decide_eq_true h2))
  ntrans x y z h1 h2 := by
    rw [lt_key] at *
    have h1 := of_decide_eq_false h1
    have h2 := of_decide_eq_false h2
    exact decide_eq_false fun h => by
      have a := List.not_lt.1 h1
      have b := List.not_lt.1 h2
      exact List.not_lt.2 (List.le_trans b a) h
set_option maxHeartbeats 1000000 in
theorem closure_any (x y : Rec) (W : World) : Calls Try.prog 26 #[.agg (rcA x), .agg (rcA y)] W fun e w' => e = .returned (.int .i64 (cmpK x y)) ∧ ∃ q os', w' = Sort.grow (W.drewN q) os' := by
  have hcon := fun W' => Sh.strings_Compare x.i y.i W'
  unfold cmpK
  generalize Lib.compareBytes x.i.data.toList y.i.data.toList = r at hcon ⊢
  go_enter Try.func26, Try.ntmps26
  go_wp2_with (go_at_call 27; refine (hcon _).mono ?_; rintro e w' ⟨rfl, rfl⟩)
  go_ret
  exact ⟨rfl, 0, _, by rw [Sort.alloc_eq_grow, Sort.alloc_eq_grow, Sort.grow_grow]; rfl⟩
theorem cmpLaysK (blk off size : Nat) (w : World) : CmpLays Try.prog 26 #[] rcC 7 cmpK blk off size w := fun _ _ _ _ x y => closure_any x y _

/-- Sorted, the keys each once: it is what the document's newest ones are. -/
theorem AllR.newest {D : DataW Rec} {L rs ss : List Rec} (hA : AllR D rs) (hD : MapD D L) (hp : ss.Perm rs) (hs : ∀ i j (hi : i < ss.length) (hj : j < ss.length), i < j → ¬ ss[j].key < ss[i].key) : ss = newest L := by
  have hnd : (ss.map Rec.key).Nodup := (hp.map Rec.key).nodup_iff.2 hA.nd
  have hsrt : Srt ss := by
    unfold Srt
    rw [List.pairwise_iff_getElem]
    intro i j hi hj hij
    by_cases hlt : ss[i].key < ss[j].key
    · exact hlt
    · exfalso
      have h2 := hs i j hi hj hij
      have : ss[i].key = ss[j].key := by
        by_cases e : ss[i].key = ss[j].key
        · exact e
        · exact absurd (key_total hlt e) h2
      have h3 := List.pairwise_iff_getElem.1 hnd i j (by simpa using hi) (by simpa using hj) hij
      simp at h3
      exact h3 this
  refine newest_of hsrt fun x => ?_
  have hin : ∀ r ∈ ss, best L r.key = some r := fun r hr => by
    have h1 := hA.at_ r (hp.mem_iff.1 hr) .nil
    rw [hD.at_] at h1
    cases hb : best L r.key with
    | none => rw [hb] at h1; cases h1
    | some q => rw [hb] at h1; injection h1 with h1; rw [h1]
  cases hb : best L x with
  | none =>
    cases hl : look ss x with
    | none => rfl
    | some r =>
      obtain ⟨h1, h2⟩ := look_mem hl
      have := hin r h1
      rw [h2, hb] at this
      cases this
  | some r =>
    have hk : has D (.string x) = true := has_true_of_atKey (y := .held r) (fun z => by rw [hD.at_, hb])
    have hm := (hA.m x).2 hk
    obtain ⟨q, hq, e⟩ := List.mem_map.1 hm
    have hq2 := hp.mem_iff.2 hq
    have h1 := hin q hq2
    rw [e, hb] at h1
    injection h1 with h1
    subst h1
    have := srt_look hsrt hq2
    rw [e] at this
    exact this

/-- The rows' cells, sorted. -/
theorem sort_any {w0 w : World} {v : Value} {rs : List Rec} (h : w.ownsRow w0.heap.size 42 7 v rs.length (rs.flatMap rcC)) (hb : Below w0.heap.size w0 w) (hn : rs.length ≤ 1000) :
    ∃ A p, v = .slice A rs.length p ∧ Calls Try.prog 30 #[v, .func (.func 26) #[] #[]] w fun e w' => e = .returned (.tuple #[]) ∧ ∃ ss : List Rec, ss.Perm rs ∧ (∀ i j (hi : i < ss.length) (hj : j < ss.length), i < j → ¬ ss[j].key < ss[i].key) ∧ RR w' A rs.length ss ∧ Below w0.heap.size w0 w' := by
  rcases h.2 with ⟨rfl, h0⟩ | ⟨g, cap, cur, rfl, hg, hk, hc1, hc2, hc3, hc4⟩
  · refine ⟨none, 0, by rw [h0], ?_⟩
    have hnil : rs = [] := List.eq_nil_of_length_eq_zero h0
    subst hnil
    exact (AnyF.slices_SortFunc_none { Sh.sortL with } none 0 (.func (.func 26) #[] #[]) w).mono fun e w' ⟨he, hw⟩ => ⟨he, [], List.Perm.refl _, fun i j hi => by simp at hi, RR.nil _ _, by rw [hw]; exact hb⟩
  · refine ⟨some ⟨g, 0, none⟩, cap, rfl, ?_⟩
    have eg : ∀ args w, (callFunc 26 args).run Try.prog w = .ok (.enter 26 args) w := enters_of Try.func26 (by kernel_rfl) rfl
    have hgw : g < w.heap.size := (Array.getElem?_eq_some_iff.1 hk).1
    have hH : Sort.HoldsK rcC 7 w g 0 rs.toArray := by
      intro j hj
      rw [Sort.size_flatK] at hj
      have hj2 : j < rs.length * 7 := by simpa using hj
      have hi : j / 7 < rs.length := by omega
      refine ⟨?_, Sp.Blk.frozen hk _⟩
      show _ = some (id _)
      rw [Sort.get_flatK _ _ _ _ hj, id, Nat.zero_add, Sp.Blk.cell hk]
      have e1 : cur[j]? = (rs.flatMap rcC)[j]? := by
        rw [← hc4, List.getElem?_take_of_lt hj2]
        simp
      have e2 := flat_get rcC 7 rcC_len rs (j / 7) _ (j % 7) (List.getElem?_eq_getElem hi) (by omega)
      rw [show j / 7 * 7 + j % 7 = j by omega] at e2
      have e3 : rs.toArray[j / 7]! = rs[j / 7] := by
        rw [getElem!_pos rs.toArray (j / 7) (by simpa using hi)]
        simp
      rw [e1, e2, e3, List.getElem!_eq_getElem?_getD, List.getElem?_eq_getElem (by rw [rcC_len]; omega)]
      rfl
    have hcon := AnyQ.slices_SortFunc Sh.sortL 7 Try.isAgg42 Try.sizeOf42 rcC rcC_len rc_one cmpK swoK 26 #[] g 0 cap rs.toArray w eg (cmpLaysK g 0 rs.toArray.size w) hH hgw (by simp; omega)
    change Calls Try.prog 30 #[.slice (some ⟨g, 0, none⟩) rs.toArray.size cap, .func (.func 26) #[] #[]] w _ at hcon
    rw [List.size_toArray] at hcon
    refine hcon.mono ?_
    rintro e w' ⟨he, d', n, os, hp, hs, rfl⟩
    refine ⟨he, d'.toList, ?_, ?_, ?_, ?_⟩
    · have h2 := hp.2.2
      have hsz : d'.size = rs.length := by rw [hp.1]; simp
      have e1 : d'.extract 0 rs.length = d' := by rw [← hsz]; simp
      rw [e1] at h2
      simpa using h2
    · intro i j hi hj hij
      have hsz : d'.size = rs.length := by rw [hp.1]; simp
      have h2 := hs i j (Nat.zero_le _) hij (by rw [Array.length_toList] at hj; simpa [hsz] using hj)
      rw [lt_key, getElem!_pos d' j (by simpa using hj), getElem!_pos d' i (by simpa using hi)] at h2
      simpa using of_decide_eq_false h2
    · have hsz : d'.size = rs.length := by rw [hp.1]; simp
      have H2 := holdsK_sortWorldK_c rcC 7 w g 0 rs.toArray d' n os hH hgw hp.1
      refine ⟨by simp [hsz], fun h0 => ⟨g, 0, rfl, fun i j r hi hj => ?_⟩⟩
      have hlt : i < d'.size := by simpa using (List.getElem?_eq_some_iff.1 hi).1
      have h3 := (Sort.HoldsK.cell H2 hlt hj).1
      have e3 : d'[i]! = r := by
        rw [getElem!_pos d' i hlt]
        have := (List.getElem?_eq_some_iff.1 hi).2
        simpa using this
      rw [h3, e3, List.getElem!_eq_getElem?_getD, List.getElem?_eq_getElem (by rw [rcC_len]; exact hj)]
      rfl
    · refine ⟨hb.os, hb.tape, hb.output, Nat.le_trans hb.size (size_sortWorldK_c rcC 7 w g 0 n d' os), fun k hk0 => ?_⟩
      have hkw : k < w.heap.size := Nat.lt_of_lt_of_le hk0 hb.size
      unfold sortWorldK
      rw [Sort.heap_grow_old _ _ (by rw [Sort.size_putRowK]; exact hkw)]
      show (w.heap.modify g _)[k]? = _
      rw [Array.getElem?_modify, if_neg (by omega)]
      exact hb.block k hk0
theorem sortedC : SortedC := ⟨by
  intro w L D b nn Bm hn hf hown hD hB
  have hsz : Maps.size D ≤ 200 := by
    obtain ⟨es, clock, _, _, h1, rfl⟩ := hown
    simp only [Maps.size, length_sorted, List.length_map, Array.length_toList]
    omega
  have HC := Lib.hid (rcollect_any Bm b nn D hD.ownK w hB hown hsz)
  have HD := Lib.hid hD
  have HZ : Hid (∀ rs, AllR D rs → rs.length ≤ 1000) := Lib.hid (fun rs h => by
    have h1 := h.p.length_eq
    rw [List.length_map] at h1
    rw [h1]
    obtain ⟨es, clock, _, _, h2, rfl⟩ := hown
    simp only [strKeys, List.length_map, length_sorted, Array.length_toList]
    omega)
  clear hown hD hB hsz
  go_enter Try.func24, Try.ntmps24
  go_wp2_with fail
  refine HC.out.mono ?_
  rintro e w1 ⟨v, rs, rfl, hA, hrow, hb⟩
  have HA := Lib.hid hA
  obtain ⟨A, p, rfl, hs⟩ := sort_any hrow hb (HZ.out rs hA)
  have HS := Lib.hid hs
  clear hA hrow hb hs HC
  go_wp2_with fail
  refine HS.out.mono ?_
  rintro e w2 ⟨rfl, ss, hp, ho, hr, hb⟩
  obtain rfl := HA.out.newest HD.out hp ho
  have hl := hp.length_eq
  rw [← hl] at hr ⊢
  have HR := Lib.hid hr
  have HB := Lib.hid hb
  clear hp ho hr hb hl
  go_wp2_with fail
  go_ret
  first | exact ⟨A, p, rfl, HR.out, HB.out⟩ | exact ⟨A, ⟨p, rfl⟩, HR.out, HB.out⟩⟩
/-- What the statements ask of the program. -/
theorem prg : Prg where
  nw p _ h hn hf := newest_by sortedC p h hn hf
  ss p _ now h hn hf _ := sessions_by sortedC p now h hn hf
  ut p _ ver h hn _ _ := upto_any p ver h hn
end Go.Proofs.Ytckakkocblkcoaa.Re
