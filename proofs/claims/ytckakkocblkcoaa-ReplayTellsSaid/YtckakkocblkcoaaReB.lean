/- The document's Is. -/
import Derived.Test.YtckakkocblkcoaaReA
namespace Go.Proofs.Ytckakkocblkcoaa.Re
open Go.RowKit Go.Lib
open Sp
set_option linter.unusedVariables false
set_option maxRecDepth 100000

set_option maxHeartbeats 16000000 in
theorem is_is {w : World} {A : Option Addr} {n p : Nat} {L : List Rec} {i : Nat} {r : Rec} (h : RR w A n L) (hi : L[i]? = some r) (hn : n ≤ 1000) {b : Bool} (hb : isNew L i = b) :
    Calls Try.prog 28 #[.slice A n p, .int .i64 (i : Int)] w fun e w' => e = .returned (.bool b) ∧ Below w.heap.size w w' := by
  have hin : i < n := by rw [h.len]; exact (List.getElem?_eq_some_iff.1 hi).1
  have HR := Lib.hid h
  have HI := Lib.hid hi
  have HB := Lib.hid hb
  have HN := Lib.hid hn
  clear h hi hb hn
  go_enter Try.func28, Try.ntmps28
  go_wp2_with fail
  go_loopg [5] n (fun gk s5 wr => ∃ (k : Nat), k ≤ n ∧ gk = n - k ∧ s5 = .int .i64 (k : Nat) ∧ Hid ((∀ j, j < k → newB L i j = false) ∧ Below w.heap.size w wr))
  case atStart => exact ⟨0, by omega, rfl, rfl, Lib.hid ⟨fun j hj => by omega, Below.refl _ _⟩⟩
  case round =>
    obtain ⟨k, hk, hgk, rfl, HW⟩ := hrel
    have HGK := Lib.hid hgk
    clear hgk
    by_cases hlt : k < n
    · have hli : (k : Int) < (n : Int) := by omega
      obtain ⟨q, hq⟩ : ∃ q, L[k]? = some q := ⟨_, List.getElem?_eq_getElem (by rw [← HR.out.len]; exact hlt)⟩
      obtain ⟨bb, hbb⟩ : ∃ z, newB L i k = z := ⟨_, rfl⟩
      have HQ := Lib.hid (newer_is (p := p) (HR.out.later HW.out.2) HI.out hq HN.out hbb)
      have wi : IntKind.i64.wrap ((k : Int) + 1) = (k : Int) + 1 := IntWalk.i64_in _ (by have := HN.out; omega)
      have HBB := Lib.hid hbb
      have HLT := Lib.hid hlt
      clear hq hbb hlt
      go_wp2_with fail
      refine HQ.out.mono ?_
      rintro e' w2 ⟨rfl, hb2⟩
      have BB := Lib.hid (HW.out.2.trans (hb2.mono HW.out.2.size))
      clear HQ hb2
      cases bb with
      | true =>
        go_wp2_with fail
        try rw [Exit.noGoto_ret]
        go_ret
        refine ⟨?_, BB.out⟩
        have : isNew L i = false := by
          unfold isNew
          rw [show (List.range L.length).any (newB L i) = true from List.any_eq_true.2 ⟨k, List.mem_range.2 (by rw [← HR.out.len]; exact HLT.out), HBB.out⟩]
          rfl
        rw [← HB.out, this]
        rfl
      | false =>
        go_wp2_with fail
        go_roundg (n - (k + 1))
        case measure => have := HGK.out; have := HLT.out; omega
        case rel => exact ⟨k + 1, by have := HLT.out; omega, by have := HGK.out; omega, by go_num, Lib.hid ⟨fun j hj => by
          rcases Nat.lt_or_ge j k with h | h
          · exact HW.out.1 j h
          · obtain rfl : j = k := by omega
            exact HBB.out, BB.out⟩⟩
    · obtain rfl : n = k := by omega
      have hlti : ¬ ((n : Nat) : Int) < (n : Int) := by omega
      have hini : (i : Int) < (n : Int) := by omega
      have hbv : isL r = b := by
        have hb := HB.out
        unfold isNew liveB at hb
        rw [HI.out] at hb
        rw [show (List.range L.length).any (newB L i) = false from by
          rw [List.any_eq_false]
          intro j hj
          rw [HW.out.1 j (by rw [HR.out.len]; exact List.mem_range.1 hj)]
          simp] at hb
        simpa using hb
      obtain ⟨g, o, rfl, hc⟩ := HR.out.rc (by omega)
      have k2 := ((hc i r HI.out).later HW.out.2).c2
      obtain ⟨kd, ekd⟩ : ∃ z, r.k = z := ⟨_, rfl⟩
      rw [ekd] at k2
      have HV : Hid ((decide (kd = 1) || decide (kd = 2)) = b) := Lib.hid (by rw [← hbv]; unfold isL; rw [ekd])
      clear hbv ekd hc hlt hk
      by_cases h1 : kd = 1
      case pos =>
        subst h1
        obtain rfl : true = b := HV.out
        have q1 : ((1 : Int) == 1) = true := rfl
        go_wp2_with fail
        go_ret
        exact ⟨rfl, HW.out.2⟩
      case neg =>
        have q1 : (kd == 1) = false := by simpa using h1
        obtain ⟨b2, e2⟩ : ∃ z, (kd == 2) = z := ⟨_, rfl⟩
        have HB2 : Hid (b2 = b) := Lib.hid (by
          have := HV.out
          rw [← this, ← e2]
          by_cases h2 : kd = 2 <;> simp [h1, h2])
        go_wp2_with fail
        go_ret
        exact ⟨by rw [← HB2.out]; rfl, HW.out.2⟩
end Go.Proofs.Ytckakkocblkcoaa.Re
