/- Rows of records; the document's newer and Is. -/
import Derived.Test.YtckakkocblkcoaaReM
import Derived.Test.YtckakkocblkcoaaSpA
import Derived.BigQuiet
import Derived.IntWalk
import Derived.WalkSmall
import Derived.Deep.LoopGhost
import Derived.Deep.DeepCutAuto
namespace Go.Proofs.Ytckakkocblkcoaa.Re
open Go.RowKit Go.Lib
open Sp
set_option linter.unusedVariables false
set_option maxRecDepth 100000

/-- A record's cells. -/
def rcC (r : Rec) : List Value := [.int .u64 r.l, .int .u32 r.e, .int .i64 r.k, .int .u64 r.v, .int .u64 r.d, .string r.i, .string r.a]
theorem rcC_len (r : Rec) : (rcC r).length = 7 := rfl
/-- Records that can be read. -/
structure RR (w : World) (A : Option Addr) (n : Nat) (L : List Rec) : Prop where
  len : n = L.length
  c : 0 < n → ∃ g o, A = some ⟨g, o, none⟩ ∧ ∀ i j r, L[i]? = some r → j < 7 → w.cell? ⟨g, o + i * 7 + j, none⟩ = (rcC r)[j]?
theorem RR.later {w w' : World} {A : Option Addr} {n : Nat} {L : List Rec} (h : RR w A n L) (hb : Below w.heap.size w w') : RR w' A n L :=
  ⟨h.len, fun h0 => by
    obtain ⟨g, o, e, hc⟩ := h.c h0
    refine ⟨g, o, e, fun i j r hi hj => ?_⟩
    have h1 := hc i j r hi hj
    obtain ⟨v, hv⟩ : ∃ v, (rcC r)[j]? = some v := ⟨(rcC r)[j]'(by rw [rcC_len]; exact hj), List.getElem?_eq_getElem (by rw [rcC_len]; exact hj)⟩
    rw [hv] at h1 ⊢
    exact (hb.cell (World.block_lt_of_cell? _ _ h1)).trans h1⟩
/-- One record of a row. -/
structure RC (w : World) (g o : Nat) (r : Rec) : Prop where
  c0 : w.cell? ⟨g, o, none⟩ = some (.int .u64 r.l)
  c1 : w.cell? ⟨g, o + 1, none⟩ = some (.int .u32 r.e)
  c2 : w.cell? ⟨g, o + 2, none⟩ = some (.int .i64 r.k)
  c3 : w.cell? ⟨g, o + 3, none⟩ = some (.int .u64 r.v)
  c4 : w.cell? ⟨g, o + 4, none⟩ = some (.int .u64 r.d)
  c5 : w.cell? ⟨g, o + 5, none⟩ = some (.string r.i)
  c6 : w.cell? ⟨g, o + 6, none⟩ = some (.string r.a)
theorem RC.of {w : World} {g o : Nat} {r : Rec} (h : ∀ j, j < 7 → w.cell? ⟨g, o + j, none⟩ = (rcC r)[j]?) : RC w g o r :=
  ⟨h 0 (by decide), h 1 (by decide), h 2 (by decide), h 3 (by decide), h 4 (by decide), h 5 (by decide), h 6 (by decide)⟩
theorem RR.rc {w : World} {A : Option Addr} {n : Nat} {L : List Rec} (h : RR w A n L) (h0 : 0 < n) : ∃ g o, A = some ⟨g, o, none⟩ ∧ ∀ i r, L[i]? = some r → RC w g (o + i * 7) r := by
  obtain ⟨g, o, e, hc⟩ := h.c h0
  exact ⟨g, o, e, fun i r hi => .of fun j hj => hc i j r hi hj⟩
theorem RC.later {w w' : World} {g o : Nat} {r : Rec} (h : RC w g o r) (hb : Below w.heap.size w w') : RC w' g o r := by
  have k : ∀ (q : Addr) (v : Value), w.cell? q = some v → w'.cell? q = some v := fun q v h => (hb.cell (World.block_lt_of_cell? _ _ h)).trans h
  exact ⟨k _ _ h.c0, k _ _ h.c1, k _ _ h.c2, k _ _ h.c3, k _ _ h.c4, k _ _ h.c5, k _ _ h.c6⟩
theorem below_drewN {B : Nat} {a w : World} (h : Below B a w) (n : Nat) : Below B a (w.drewN n) := ⟨h.os, h.tape, h.output, h.size, h.block⟩
theorem key_eq {a b : Rec} : (a.i.toList == b.i.toList) = decide (a.key = b.key) := by
  show (a.key == b.key) = _
  by_cases h : a.key = b.key <;> simp [h]
theorem newB_is {l : List Rec} {i k : Nat} {r p : Rec} (hi : l[i]? = some r) (hk : l[k]? = some p) : newB l i k = (isL p && decide (p.key = r.key) && (decide (r.v < p.v) || (decide (p.v = r.v) && decide (i < k)))) := by
  unfold newB
  rw [hi, hk]
set_option maxHeartbeats 32000000 in
theorem newer_is {w : World} {A : Option Addr} {n p : Nat} {L : List Rec} {i k : Nat} {r q : Rec} (h : RR w A n L) (hi : L[i]? = some r) (hk : L[k]? = some q) (hn : n ≤ 1000) {b : Bool} (hb : newB L i k = b) :
    Calls Try.prog 33 #[.slice A n p, .int .i64 (i : Int), .int .i64 (k : Int)] w fun e w' => e = .returned (.bool b) ∧ Below w.heap.size w w' := by
  have hin : i < n := by rw [h.len]; exact (List.getElem?_eq_some_iff.1 hi).1
  have hkn : k < n := by rw [h.len]; exact (List.getElem?_eq_some_iff.1 hk).1
  obtain ⟨g, o, rfl, hc⟩ := h.rc (by omega)
  have Ri := hc i r hi
  have Rk := hc k q hk
  rw [newB_is hi hk] at hb
  have HB := Lib.hid hb
  clear h hi hk hc hb
  have hin2 : (i : Int) < (n : Int) := by omega
  have hkn2 : (k : Int) < (n : Int) := by omega
  have k2 := Rk.c2
  have k3 := Rk.c3
  have k5 := Rk.c5
  have i3 := Ri.c3
  have i5 := Ri.c5
  clear Ri Rk
  have HW : Hid (∀ q, Below w.heap.size w (w.drewN q)) := Lib.hid (fun q => below_drewN (Below.refl _ _) q)
  obtain ⟨kd, ekd⟩ : ∃ z, q.k = z := ⟨_, rfl⟩
  obtain ⟨vq, evq⟩ : ∃ z, q.v = z := ⟨_, rfl⟩
  obtain ⟨vr, evr⟩ : ∃ z, r.v = z := ⟨_, rfl⟩
  have HL : Hid (isL q = (decide (kd = 1) || decide (kd = 2))) := Lib.hid (by unfold isL; rw [ekd])
  have HKY : Hid ((q.i.toList == r.i.toList) = decide (q.key = r.key)) := Lib.hid key_eq
  obtain ⟨iq, eiq⟩ : ∃ z, q.i = z := ⟨_, rfl⟩
  obtain ⟨ir, eir⟩ : ∃ z, r.i = z := ⟨_, rfl⟩
  obtain ⟨ky, eky⟩ : ∃ z, decide (q.key = r.key) = z := ⟨_, rfl⟩
  rw [ekd] at k2
  rw [evq] at k3
  rw [evr] at i3
  rw [eiq] at k5 HKY
  rw [eir] at i5 HKY
  rw [evr, evq, HL.out] at HB
  rw [eky] at HB HKY
  clear ekd evq evr eiq eir eky HL
  go_enter Try.func33, Try.ntmps33
  go_upto_region 1 with fail
  by_cases h1 : kd = 1
  case pos =>
    obtain rfl : 1 = kd := h1.symm
    cases ky with
    | false =>
      have q3 : (iq.toList == ir.toList) = false := HKY.out
      obtain rfl : false = b := by have := HB.out; simpa using this
      clear HB HKY
      go_quiet (fail)
      clear k2 k3 k5 i3 i5
      go_wp2_with fail
      go_ret
      first | exact ⟨rfl, HW.out _⟩ | exact ⟨by simp [h5], HW.out _⟩ | exact ⟨by simp [h3], HW.out _⟩
    | true =>
      have q3 : (iq.toList == ir.toList) = true := HKY.out
      by_cases h3 : vr < vq
      · obtain rfl : true = b := by have := HB.out; simpa [h3] using this
        have q4 : ¬ vq ≤ vr := by omega
        clear HB HKY h3
        go_quiet (fail)
        clear k2 k3 k5 i3 i5
        go_wp2_with fail
        go_ret
        first | exact ⟨rfl, HW.out _⟩ | exact ⟨by simp [h5], HW.out _⟩ | exact ⟨by simp [h3], HW.out _⟩
      · have q4 : vq ≤ vr := by omega
        by_cases h4 : vq = vr
        · subst h4
          by_cases h5 : i < k
          · obtain rfl : true = b := by have := HB.out; simpa [h5] using this
            have q5 : ¬ (k : Int) ≤ (i : Int) := by omega
            clear HB HKY h3
            go_quiet (fail)
            clear k2 k3 k5 i3 i5
            go_wp2_with fail
            go_ret
            first | exact ⟨rfl, HW.out _⟩ | exact ⟨by simp [h5], HW.out _⟩ | exact ⟨by simp [h3], HW.out _⟩
          · obtain rfl : false = b := by have := HB.out; simpa [h5] using this
            have q5 : (k : Int) ≤ (i : Int) := by omega
            clear HB HKY h3
            go_quiet (fail)
            clear k2 k3 k5 i3 i5
            go_wp2_with fail
            go_ret
            first | exact ⟨rfl, HW.out _⟩ | exact ⟨by simp [h5], HW.out _⟩ | exact ⟨by simp [h3], HW.out _⟩
        · have q5 : (vq == vr) = false := by simpa using h4
          obtain rfl : false = b := by have := HB.out; simpa [h3, h4] using this
          clear HB HKY h4
          go_quiet (fail)
          clear k2 k3 k5 i3 i5
          go_wp2_with fail
          go_ret
          first | exact ⟨rfl, HW.out _⟩ | exact ⟨by simp [h5], HW.out _⟩ | exact ⟨by simp [h3], HW.out _⟩
  case neg =>
    by_cases h2 : kd = 2
    case pos =>
      obtain rfl : 2 = kd := h2.symm
      cases ky with
      | false =>
        have q3 : (iq.toList == ir.toList) = false := HKY.out
        obtain rfl : false = b := by have := HB.out; simpa using this
        clear HB HKY
        go_quiet (fail)
        clear k2 k3 k5 i3 i5
        go_wp2_with fail
        go_ret
        first | exact ⟨rfl, HW.out _⟩ | exact ⟨by simp [h5], HW.out _⟩ | exact ⟨by simp [h3], HW.out _⟩
      | true =>
        have q3 : (iq.toList == ir.toList) = true := HKY.out
        by_cases h3 : vr < vq
        · obtain rfl : true = b := by have := HB.out; simpa [h3] using this
          have q4 : ¬ vq ≤ vr := by omega
          clear HB HKY h3
          go_quiet (fail)
          clear k2 k3 k5 i3 i5
          go_wp2_with fail
          go_ret
          first | exact ⟨rfl, HW.out _⟩ | exact ⟨by simp [h5], HW.out _⟩ | exact ⟨by simp [h3], HW.out _⟩
        · have q4 : vq ≤ vr := by omega
          by_cases h4 : vq = vr
          · subst h4
            by_cases h5 : i < k
            · obtain rfl : true = b := by have := HB.out; simpa [h5] using this
              have q5 : ¬ (k : Int) ≤ (i : Int) := by omega
              clear HB HKY h3
              go_quiet (fail)
              clear k2 k3 k5 i3 i5
              go_wp2_with fail
              go_ret
              first | exact ⟨rfl, HW.out _⟩ | exact ⟨by simp [h5], HW.out _⟩ | exact ⟨by simp [h3], HW.out _⟩
            · obtain rfl : false = b := by have := HB.out; simpa [h5] using this
              have q5 : (k : Int) ≤ (i : Int) := by omega
              clear HB HKY h3
              go_quiet (fail)
              clear k2 k3 k5 i3 i5
              go_wp2_with fail
              go_ret
              first | exact ⟨rfl, HW.out _⟩ | exact ⟨by simp [h5], HW.out _⟩ | exact ⟨by simp [h3], HW.out _⟩
          · have q5 : (vq == vr) = false := by simpa using h4
            obtain rfl : false = b := by have := HB.out; simpa [h3, h4] using this
            clear HB HKY h4
            go_quiet (fail)
            clear k2 k3 k5 i3 i5
            go_wp2_with fail
            go_ret
            first | exact ⟨rfl, HW.out _⟩ | exact ⟨by simp [h5], HW.out _⟩ | exact ⟨by simp [h3], HW.out _⟩
    case neg =>
      have q1 : (kd == 1) = false := by simpa using h1
      have q2 : (kd == 2) = false := by simpa using h2
      obtain rfl : false = b := by have := HB.out; simpa [h1, h2] using this
      clear HB HKY h1 h2
      go_quiet (fail)
      clear k2 k3 k5 i3 i5
      go_wp2_with fail
      go_ret
      first | exact ⟨rfl, HW.out _⟩ | exact ⟨by simp [h5], HW.out _⟩ | exact ⟨by simp [h3], HW.out _⟩
end Go.Proofs.Ytckakkocblkcoaa.Re
