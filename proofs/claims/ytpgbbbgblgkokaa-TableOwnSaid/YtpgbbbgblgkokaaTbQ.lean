/- Contracts of the statements' own Ref and Cut, of the document's Ints and Same where both sides are the same, and of Sector of both sides; no memory that was there is changed. -/
import Derived.Test.YtpgbbbgblgkokaaTbF
import Derived.IntWalk
namespace Go.Proofs.Ytpgbbbgblgkokaa
open Go.RowKit Go.Lib
set_option linter.unusedVariables false

theorem ref_any (sg st : Int) (A : Option Addr) (m p : Nat) (B : Option Addr) (k q : Nat) (C : Option Addr) (n r : Nat) (w : World) : Calls Try.prog 12 #[.agg #[.int .i64 sg, .int .i64 st, .slice A m p, .slice B k q, .slice C n r]] w fun e' w' => e' = .returned (.agg #[.int .i64 sg, .int .i64 st, .slice A m p, .slice B k q, .slice C n r]) ∧ Below w.heap.size w w' := by
  have hb : Below w.heap.size w ((w.alloc (.cells #[.int .i64 sg, .int .i64 st, .slice A m p, .slice B k q, .slice C n r] 28)).alloc (.cells #[.int .i64 0, .int .i64 0, .slice none 0 0, .slice none 0 0, .slice none 0 0] 32)) := Ge.trans (below1 _ _) (below1 _ _)
  have K0 : Blk ((w.alloc (.cells #[.int .i64 sg, .int .i64 st, .slice A m p, .slice B k q, .slice C n r] 28)).alloc (.cells #[.int .i64 0, .int .i64 0, .slice none 0 0, .slice none 0 0, .slice none 0 0] 32)) (w.heap.size + 1) 32 (csT 0 0 none 0 0 none 0 0 none 0 0) := Blk.at_ _ _ _ (by simp)
  have HK := Lib.hid K0
  have HB := Lib.hid hb
  clear K0 hb
  go_enter Try.func12, Try.ntmps12
  go_wp2_with (with_reducible refine store_r rfl (.tmp 2) (.tmp 13) rfl (w.heap.size + 1) rfl rfl HK.out ?_)
  exact bodyPost_ret (res_r1 rfl _ _ (w.heap.size + 1) rfl (HK.out.row _)) rfl ⟨rfl, below_row HB.out (by omega) _⟩

/-- How many numbers are left of a list. -/
def cut20 (m : Nat) : Nat := min m 20
theorem cut20_le (m : Nat) : cut20 m ≤ 20 := by unfold cut20; omega
theorem cut20_self (m : Nat) : cut20 m ≤ m := by unfold cut20; omega
theorem Sl.cut {κ : IntKind} {W : World} {A : Option Addr} {m : Nat} {o : List Int} (h : Sl κ W A m o) : Sl κ W A (cut20 m) (o.take 20) := by
  unfold cut20
  refine ⟨by rw [List.length_take, ← h.len]; omega, fun hn => ?_⟩
  obtain ⟨b, f, e, hlt, hc⟩ := h.cells (by omega)
  refine ⟨b, f, e, hlt, fun j hj => ?_⟩
  rw [hc j (by omega)]
  simp only [nth_take (show j < 20 by omega)]
theorem TIn.cut {W : World} {A : Option Addr} {m : Nat} {B : Option Addr} {k : Nat} {C : Option Addr} {n : Nat} {o l f : List Int} (h : TIn W A m B k C n o l f) : TIn W A (cut20 m) B (cut20 k) C (cut20 n) (o.take 20) (l.take 20) (f.take 20) := ⟨h.a.cut, h.b.cut, h.c.cut⟩

set_option maxHeartbeats 1000000 in
theorem lawcut_any (sg st : Int) (A : Option Addr) (m p : Nat) (B : Option Addr) (k q : Nat) (C : Option Addr) (n r : Nat) (w : World) (hm : m ≤ maxLen) (hk : k ≤ maxLen) (hn : n ≤ maxLen) (hp : m ≤ p) (hq : k ≤ q) (hr : n ≤ r) :
    Calls Try.prog 26 #[.agg #[.int .i64 sg, .int .i64 st, .slice A m p, .slice B k q, .slice C n r]] w fun e' w' => e' = .returned (.agg #[.int .i64 sg, .int .i64 st, .slice A (cut20 m) p, .slice B (cut20 k) q, .slice C (cut20 n) r]) ∧ Below w.heap.size w w' := by
  unfold maxLen at hm hk hn
  obtain ⟨m2, e1, c1⟩ : ∃ m2, cut20 m = m2 ∧ ((m2 = m ∧ ¬ 20 < (m : Int)) ∨ (m2 = 20 ∧ 20 < (m : Int))) := ⟨_, rfl, by unfold cut20; omega⟩
  obtain ⟨k2, e2, c2⟩ : ∃ k2, cut20 k = k2 ∧ ((k2 = k ∧ ¬ 20 < (k : Int)) ∨ (k2 = 20 ∧ 20 < (k : Int))) := ⟨_, rfl, by unfold cut20; omega⟩
  obtain ⟨n2, e3, c3⟩ : ∃ n2, cut20 n = n2 ∧ ((n2 = n ∧ ¬ 20 < (n : Int)) ∨ (n2 = 20 ∧ 20 < (n : Int))) := ⟨_, rfl, by unfold cut20; omega⟩
  rw [e1, e2, e3]
  clear e1 e2 e3
  have d1 : (m : Int) ≤ (p : Int) := by omega
  have d2 : (k : Int) ≤ (q : Int) := by omega
  have d3 : (n : Int) ≤ (r : Int) := by omega
  have d4 : 20 < (m : Int) → 20 ≤ (p : Int) := fun _ => by omega
  have d5 : 20 < (k : Int) → 20 ≤ (q : Int) := fun _ => by omega
  have d6 : 20 < (n : Int) → 20 ≤ (r : Int) := fun _ => by omega
  rcases c1 with ⟨rfl, h1⟩ | ⟨rfl, h1⟩
  all_goals rcases c2 with ⟨rfl, h2⟩ | ⟨rfl, h2⟩
  all_goals rcases c3 with ⟨rfl, h3⟩ | ⟨rfl, h3⟩
  all_goals
    try have d4 := d4 h1
    try have d5 := d5 h2
    try have d6 := d6 h3
    go_enter Try.func26, Try.ntmps26
    go_wp2_with fail
    exact bodyPost_ret (res_t1 rfl _ _ (w.heap.size + 1) rfl (Blk.at_ (b := w.heap.size + 1) _ _ (csT sg st A _ p B _ q C _ r) (by simp))) rfl ⟨rfl, Ge.trans (below1 _ _) (below1 _ _)⟩

set_option maxHeartbeats 1000000 in
theorem ints_yes (A : Option Addr) (m p : Nat) (B : Option Addr) (k q : Nat) (o : List Int) (w : World) (hA : Sl .i64 w A m o) (hB : Sl .i64 w B k o) (hm : m ≤ maxLen) :
    Calls Try.prog 16 #[.slice A m p, .slice B k q] w fun e w' => e = .returned (.bool true) ∧ Below w.heap.size w w' := by
  unfold maxLen at hm
  have ho := Lib.hid hA.len
  obtain rfl : k = m := by rw [hA.len, hB.len]
  have h4 : ((k : Int) != (k : Int)) = false := by simp
  have HA := Lib.hid hA
  have HB' := Lib.hid hB
  clear hA hB
  go_enter Try.func16, Try.ntmps16
  go_wp2_with fail
  go_loopg [5] k (fun gk s5 wr => ∃ i : Nat, i ≤ k ∧ gk = k - i ∧ s5 = .int .i64 i ∧ Hid (Below w.heap.size w wr))
  case atStart => exact ⟨0, by omega, rfl, rfl, Lib.hid (Below.refl _ _)⟩
  case round =>
    obtain ⟨i, hi, hgk, rfl, HB⟩ := hrel
    have HG := Lib.hid hgk
    clear hgk
    by_cases hlt : i < k
    · have hlti : (i : Int) < (k : Int) := by omega
      obtain ⟨ba, oa, rfl, hba, ca⟩ := HA.out.cells (by omega)
      obtain ⟨bb, ob, rfl, hbb, cb⟩ := HB'.out.cells (by omega)
      have c1 := ((bcell HB.out).1 ba (oa + i) hba).trans (ca i hlt)
      have c2 := ((bcell HB.out).1 bb (ob + i) hbb).trans (cb i hlt)
      obtain ⟨x, X⟩ : ∃ x, Hid (nth o i = x) := ⟨_, rfl⟩
      simp only [X.out] at c1 c2
      have HB2 := Lib.hid (Ge.trans HB.out (below_drawn _))
      clear ca cb
      have hx : (x != x) = false := by simp
      go_wp2_with fail
      go_region
      go_wp2_with fail
      go_roundg (k - (i + 1))
      case measure => have := HG.out; omega
      case rel => exact ⟨i + 1, by omega, rfl, by go_num, HB2⟩
    · obtain rfl : i = k := by omega
      have hlti : ¬ (i : Int) < (i : Int) := by omega
      go_wp2_with fail
      go_ret
      exact ⟨rfl, HB.out⟩

set_option maxHeartbeats 4000000 in
theorem same_yes (sg st : Int) (A0 : Option Addr) (m0 p0 : Nat) (B0 : Option Addr) (k0 q0 : Nat) (C0 : Option Addr) (n0 r0 : Nat) (A1 : Option Addr) (m1 p1 : Nat) (B1 : Option Addr) (k1 q1 : Nat) (C1 : Option Addr) (n1 r1 : Nat) (o l f : List Int) (w : World) (h0 : TIn w A0 m0 B0 k0 C0 n0 o l f) (h1 : TIn w A1 m1 B1 k1 C1 n1 o l f) (hm : m0 ≤ maxLen) (hk : k0 ≤ maxLen) (hn : n0 ≤ maxLen) :
    Calls Try.prog 11 #[.agg #[.int .i64 sg, .int .i64 st, .slice A0 m0 p0, .slice B0 k0 q0, .slice C0 n0 r0], .agg #[.int .i64 sg, .int .i64 st, .slice A1 m1 p1, .slice B1 k1 q1, .slice C1 n1 r1]] w fun e' w' => e' = .returned (.bool true) ∧ Below w.heap.size w w' := by
  unfold maxLen at hm hk hn
  obtain rfl : m1 = m0 := by rw [h0.a.len, h1.a.len]
  obtain rfl : k1 = k0 := by rw [h0.b.len, h1.b.len]
  obtain rfl : n1 = n0 := by rw [h0.c.len, h1.c.len]
  have u1 : (sg != sg) = false := by simp
  have u2 : (st != st) = false := by simp
  have u3 : ((m1 : Int) != (m1 : Int)) = false := by simp
  have u4 : ((k1 : Int) != (k1 : Int)) = false := by simp
  have u5 : ((n1 : Int) != (n1 : Int)) = false := by simp
  have BB : Below w.heap.size w ((w.alloc (.cells #[.int .i64 sg, .int .i64 st, .slice A0 m1 p0, .slice B0 k1 q0, .slice C0 n1 r0] 32)).alloc (.cells #[.int .i64 sg, .int .i64 st, .slice A1 m1 p1, .slice B1 k1 q1, .slice C1 n1 r1] 32)) := Ge.trans (below1 _ _) (below1 _ _)
  have L0 := (Blk.new w 32 (csT sg st A0 m1 p0 B0 k1 q0 C0 n1 r0)).later (below1 _ (.cells #[.int .i64 sg, .int .i64 st, .slice A1 m1 p1, .slice B1 k1 q1, .slice C1 n1 r1] 32))
  have L1 := Blk.at_ (b := w.heap.size + 1) (w.alloc (.cells #[.int .i64 sg, .int .i64 st, .slice A0 m1 p0, .slice B0 k1 q0, .slice C0 n1 r0] 32)) 32 (csT sg st A1 m1 p1 B1 k1 q1 C1 n1 r1) (by simp)
  have I0 : Hid (Its w [(w.heap.size, 32, csT sg st A0 m1 p0 B0 k1 q0 C0 n1 r0), (w.heap.size + 1, 32, csT sg st A1 m1 p1 B1 k1 q1 C1 n1 r1)] [] ((w.alloc (.cells #[.int .i64 sg, .int .i64 st, .slice A0 m1 p0, .slice B0 k1 q0, .slice C0 n1 r0] 32)).alloc (.cells #[.int .i64 sg, .int .i64 st, .slice A1 m1 p1, .slice B1 k1 q1, .slice C1 n1 r1] 32))) := Lib.hid (((Its.nil BB).cons L1).cons L0)
  have H0 := Lib.hid h0
  have H1 := Lib.hid h1
  clear h0 h1 L0 L1 BB
  go_enter Try.func11, Try.ntmps11
  go_wp2_with fail
  go_loopg [5] m1 (fun gk s5 wr => ∃ i : Nat, i ≤ m1 ∧ gk = m1 - i ∧ s5 = .int .i64 i ∧ Hid (Its w [(w.heap.size, 32, csT sg st A0 m1 p0 B0 k1 q0 C0 n1 r0), (w.heap.size + 1, 32, csT sg st A1 m1 p1 B1 k1 q1 C1 n1 r1)] [] wr))
  case atStart => exact ⟨0, by omega, rfl, rfl, I0⟩
  case round =>
    obtain ⟨i, hi, hgk, rfl, HI⟩ := hrel
    have HG := Lib.hid hgk
    clear hgk
    have d0 : wr.cell? ⟨w.heap.size, 2, none⟩ = some (.slice A0 m1 p0) := (HI.out.at_ 0 rfl).cell 2
    have d1 : wr.cell? ⟨w.heap.size + 1, 2, none⟩ = some (.slice A1 m1 p1) := (HI.out.at_ 1 rfl).cell 2
    by_cases hlt : i < m1
    · have hlti : (i : Int) < (m1 : Int) := by omega
      obtain ⟨ba, oa, rfl, hba, ca⟩ := H0.out.a.cells (by omega)
      obtain ⟨bb, ob, rfl, hbb, cb⟩ := H1.out.a.cells (by omega)
      have c1 := ((bcell HI.out.b).1 ba (oa + i) hba).trans (ca i hlt)
      have c2 := ((bcell HI.out.b).1 bb (ob + i) hbb).trans (cb i hlt)
      obtain ⟨x, X⟩ : ∃ x, Hid (nth o i = x) := ⟨_, rfl⟩
      simp only [X.out] at c1 c2
      have HI2 := Lib.hid (HI.out.later (below_drawn _))
      clear ca cb
      have hx : (x != x) = false := by simp
      go_wp2_with fail
      go_region
      go_wp2_with fail
      go_roundg (m1 - (i + 1))
      case measure => have := HG.out; omega
      case rel => exact ⟨i + 1, by omega, rfl, by go_num, HI2⟩
    obtain rfl : m1 = i := by omega
    have hlti : ¬ (m1 : Int) < (m1 : Int) := by omega
    have I1 := HI
    go_wp2_with fail
    clear d0 d1 HI HG hlt hi hlti
    go_loopg [6] k1 (fun gk s6 wr => ∃ i : Nat, i ≤ k1 ∧ gk = k1 - i ∧ s6 = .int .i64 i ∧ Hid (Its w [(w.heap.size, 32, csT sg st A0 m1 p0 B0 k1 q0 C0 n1 r0), (w.heap.size + 1, 32, csT sg st A1 m1 p1 B1 k1 q1 C1 n1 r1)] [] wr))
    case atStart => exact ⟨0, by omega, rfl, rfl, I1⟩
    case round =>
      obtain ⟨i, hi, hgk, rfl, HI⟩ := hrel
      have HG := Lib.hid hgk
      clear hgk
      have d0 : wr.cell? ⟨w.heap.size, 3, none⟩ = some (.slice B0 k1 q0) := (HI.out.at_ 0 rfl).cell 3
      have d1 : wr.cell? ⟨w.heap.size + 1, 3, none⟩ = some (.slice B1 k1 q1) := (HI.out.at_ 1 rfl).cell 3
      by_cases hlt : i < k1
      · have hlti : (i : Int) < (k1 : Int) := by omega
        obtain ⟨ba, oa, rfl, hba, ca⟩ := H0.out.b.cells (by omega)
        obtain ⟨bb, ob, rfl, hbb, cb⟩ := H1.out.b.cells (by omega)
        have c1 := ((bcell HI.out.b).1 ba (oa + i) hba).trans (ca i hlt)
        have c2 := ((bcell HI.out.b).1 bb (ob + i) hbb).trans (cb i hlt)
        obtain ⟨x, X⟩ : ∃ x, Hid (nth l i = x) := ⟨_, rfl⟩
        simp only [X.out] at c1 c2
        have HI2 := Lib.hid (HI.out.later (below_drawn _))
        clear ca cb
        have hx : (x != x) = false := by simp
        go_wp2_with fail
        go_region
        go_wp2_with fail
        go_roundg (k1 - (i + 1))
        case measure => have := HG.out; omega
        case rel => exact ⟨i + 1, by omega, rfl, by go_num, HI2⟩
      obtain rfl : k1 = i := by omega
      have hlti : ¬ (k1 : Int) < (k1 : Int) := by omega
      have I2 := HI
      go_wp2_with fail
      clear d0 d1 HI HG hlt hi hlti
      go_loopg [7] n1 (fun gk s7 wr => ∃ i : Nat, i ≤ n1 ∧ gk = n1 - i ∧ s7 = .int .i64 i ∧ Hid (Its w [(w.heap.size, 32, csT sg st A0 m1 p0 B0 k1 q0 C0 n1 r0), (w.heap.size + 1, 32, csT sg st A1 m1 p1 B1 k1 q1 C1 n1 r1)] [] wr))
      case atStart => exact ⟨0, by omega, rfl, rfl, I2⟩
      case round =>
        obtain ⟨i, hi, hgk, rfl, HI⟩ := hrel
        have HG := Lib.hid hgk
        clear hgk
        have d0 : wr.cell? ⟨w.heap.size, 4, none⟩ = some (.slice C0 n1 r0) := (HI.out.at_ 0 rfl).cell 4
        have d1 : wr.cell? ⟨w.heap.size + 1, 4, none⟩ = some (.slice C1 n1 r1) := (HI.out.at_ 1 rfl).cell 4
        by_cases hlt : i < n1
        · have hlti : (i : Int) < (n1 : Int) := by omega
          obtain ⟨ba, oa, rfl, hba, ca⟩ := H0.out.c.cells (by omega)
          obtain ⟨bb, ob, rfl, hbb, cb⟩ := H1.out.c.cells (by omega)
          have c1 := ((bcell HI.out.b).1 ba (oa + i) hba).trans (ca i hlt)
          have c2 := ((bcell HI.out.b).1 bb (ob + i) hbb).trans (cb i hlt)
          obtain ⟨x, X⟩ : ∃ x, Hid (nth f i = x) := ⟨_, rfl⟩
          simp only [X.out] at c1 c2
          have HI2 := Lib.hid (HI.out.later (below_drawn _))
          clear ca cb
          have hx : (x != x) = false := by simp
          go_wp2_with fail
          go_region
          go_wp2_with fail
          go_roundg (n1 - (i + 1))
          case measure => have := HG.out; omega
          case rel => exact ⟨i + 1, by omega, rfl, by go_num, HI2⟩
        obtain rfl : n1 = i := by omega
        have hlti : ¬ (n1 : Int) < (n1 : Int) := by omega
        have I3 := HI
        go_wp2_with fail
        clear d0 d1 HI HG hlt hi hlti
        go_ret
        exact ⟨rfl, I3.out.b⟩

set_option maxHeartbeats 1000000 in
theorem tsector_any (sl sg so : Int) (w : World) : Calls Try.prog 27 #[.int .i64 sl, .agg #[.int .i64 sg, .int .i64 so]] w fun e w' => e = .returned (.int .i64 (sectorT sl sg so)) ∧ Below w.heap.size w w' := by
  have HB := Lib.hid (below1 w (.cells #[.int .i64 sg, .int .i64 so] 53))
  by_cases h : 1 ≤ sl ∧ sl ≤ 30
  case neg =>
    rw [show sectorT sl sg so = -1 by unfold sectorT; rw [if_neg (by omega)]]
    have HS : Hid (decide (1 ≤ sl ∧ sl ≤ 30) = false) := Lib.hid (decide_eq_false h)
    clear h
    go_enter Try.func27, Try.ntmps27
    go_wp2_with fail
    refine (slots_is sl false _ HS.out).mono ?_
    rintro e w' ⟨rfl, rfl⟩
    go_wp2_with fail
    go_ret
    exact ⟨rfl, HB.out⟩
  have HS : Hid (decide (1 ≤ sl ∧ sl ≤ 30) = true) := Lib.hid (decide_eq_true h)
  have h1 : 1 ≤ sl := h.1
  have h2 : sl ≤ 30 := h.2
  clear h
  by_cases h3 : sg < 0
  · rw [show sectorT sl sg so = -1 by unfold sectorT; rw [if_neg (by omega)]]
    go_enter Try.func27, Try.ntmps27
    go_wp2_with fail
    refine (slots_is sl true _ HS.out).mono ?_
    rintro e w' ⟨rfl, rfl⟩
    go_wp2_with fail
    go_ret
    exact ⟨rfl, HB.out⟩
  have h3 : 0 ≤ sg := by omega
  by_cases h4 : 16 ≤ sg
  · rw [show sectorT sl sg so = -1 by unfold sectorT; rw [if_neg (by omega)]]
    go_enter Try.func27, Try.ntmps27
    go_wp2_with fail
    refine (slots_is sl true _ HS.out).mono ?_
    rintro e w' ⟨rfl, rfl⟩
    go_wp2_with fail
    go_ret
    exact ⟨rfl, HB.out⟩
  have h4 : sg ≤ 15 := by omega
  have h4s : sg < 16 := by omega
  by_cases h5 : so < 0
  · rw [show sectorT sl sg so = -1 by unfold sectorT; rw [if_neg (by omega)]]
    go_enter Try.func27, Try.ntmps27
    go_wp2_with fail
    refine (slots_is sl true _ HS.out).mono ?_
    rintro e w' ⟨rfl, rfl⟩
    go_wp2_with fail
    go_ret
    exact ⟨rfl, HB.out⟩
  have h5 : 0 ≤ so := by omega
  by_cases h6 : sl < so
  · rw [show sectorT sl sg so = -1 by unfold sectorT; rw [if_neg (by omega)]]
    go_enter Try.func27, Try.ntmps27
    go_wp2_with fail
    refine (slots_is sl true _ HS.out).mono ?_
    rintro e w' ⟨rfl, rfl⟩
    go_wp2_with fail
    go_ret
    exact ⟨rfl, HB.out⟩
  have h6 : so ≤ sl := by omega
  rw [show sectorT sl sg so = 2 + sg * (sl + 1) + so by unfold sectorT; rw [if_pos (by omega)]]
  have b1 : 0 ≤ sg * (sl + 1) := Int.mul_nonneg (by omega) (by omega)
  have b2 : sg * (sl + 1) ≤ 465 := by
    calc sg * (sl + 1) ≤ 15 * (sl + 1) := Int.mul_le_mul_of_nonneg_right h4 (by omega)
      _ ≤ 465 := by omega
  go_enter Try.func27, Try.ntmps27
  go_wp2_with fail
  refine (slots_is sl true _ HS.out).mono ?_
  rintro e w' ⟨rfl, rfl⟩
  go_wp2_with fail
  go_ret
  exact ⟨rfl, HB.out⟩

set_option maxHeartbeats 1000000 in
theorem rsector_any (sl sg so : Int) (w : World) : Calls Try.prog 28 #[.int .i64 sl, .agg #[.int .i64 sg, .int .i64 so]] w fun e w' => e = .returned (.int .i64 (sectorT sl sg so)) ∧ Below w.heap.size w w' := by
  have HB := Lib.hid (below1 w (.cells #[.int .i64 sg, .int .i64 so] 53))
  by_cases h : sl < 1
  · rw [show sectorT sl sg so = -1 by unfold sectorT; rw [if_neg (by omega)]]
    go_enter Try.func28, Try.ntmps28
    go_wp2_with fail
    go_ret
    exact ⟨rfl, HB.out⟩
  have h1 : 1 ≤ sl := by omega
  clear h
  by_cases h : 30 < sl
  · rw [show sectorT sl sg so = -1 by unfold sectorT; rw [if_neg (by omega)]]
    go_enter Try.func28, Try.ntmps28
    go_wp2_with fail
    go_ret
    exact ⟨rfl, HB.out⟩
  have h2 : sl ≤ 30 := by omega
  clear h
  by_cases h3 : sg < 0
  · rw [show sectorT sl sg so = -1 by unfold sectorT; rw [if_neg (by omega)]]
    go_enter Try.func28, Try.ntmps28
    go_wp2_with fail
    go_ret
    exact ⟨rfl, HB.out⟩
  have h3 : 0 ≤ sg := by omega
  by_cases h4 : 16 ≤ sg
  · rw [show sectorT sl sg so = -1 by unfold sectorT; rw [if_neg (by omega)]]
    have h4 : 15 < sg := by omega
    go_enter Try.func28, Try.ntmps28
    go_wp2_with fail
    go_ret
    exact ⟨rfl, HB.out⟩
  have h4 : sg ≤ 15 := by omega
  have h4s : sg < 16 := by omega
  by_cases h5 : so < 0
  · rw [show sectorT sl sg so = -1 by unfold sectorT; rw [if_neg (by omega)]]
    go_enter Try.func28, Try.ntmps28
    go_wp2_with fail
    go_ret
    exact ⟨rfl, HB.out⟩
  have h5 : 0 ≤ so := by omega
  by_cases h6 : sl < so
  · rw [show sectorT sl sg so = -1 by unfold sectorT; rw [if_neg (by omega)]]
    go_enter Try.func28, Try.ntmps28
    go_wp2_with fail
    go_ret
    exact ⟨rfl, HB.out⟩
  have h6 : so ≤ sl := by omega
  rw [show sectorT sl sg so = 2 + sg * (sl + 1) + so by unfold sectorT; rw [if_pos (by omega)]]
  have b1 : 0 ≤ sg * (sl + 1) := Int.mul_nonneg (by omega) (by omega)
  have b2 : sg * (sl + 1) ≤ 465 := by
    calc sg * (sl + 1) ≤ 15 * (sl + 1) := Int.mul_le_mul_of_nonneg_right h4 (by omega)
      _ ≤ 465 := by omega
  go_enter Try.func28, Try.ntmps28
  go_wp2_with fail
  go_ret
  exact ⟨rfl, HB.out⟩
end Go.Proofs.Ytpgbbbgblgkokaa
