/- For all inputs the statement SweepTakes about sweep returns true, and changes nothing. Conditions: none. -/
import Derived.Test.YtfhdckmpodmejaaSwI
import Derived.Test.YtfhdckmpodmejaaSwK
import Derived.Test.YtfhdckmpodmejaaClass
import Derived.Deep.RegionHeld3
import Derived.Test.YtfhdckmpodmejaaSwO
import Derived.ProofKit
import Derived.OpenShut
import Derived.ShutString
import Derived.SizedLaws
namespace Go.Proofs.Ytfhdckmpodmejaa.sweepTakes
open Go.ChangeShapes Go.WideShapes Go.ChangeAt Go.RowKit Go.Lib Go.MapKept
open Go.ChangeMaps (open_string shut_string)
set_option linter.unusedVariables false
set_option linter.unusedSimpArgs false

theorem own : ownKnob Try.prog.godebug = none := by kernel_rfl
theorem laid : laidOutB Try.prog = true := by kernel_rfl

set_option maxRecDepth 100000
open Sw Rw Sp
theorem less_eq {l : List Int} {x : Int} (h : x ∈ l) : (less l x).length < l.length := by
  obtain ⟨i, h1, _⟩ := first_at h
  unfold less
  have e := List.length_filter_lt_length_iff_exists (p := fun y => decide (y ≠ x)) (l := l)
  exact e.2 ⟨x, h, by simp⟩
theorem cut_st {s0 s : St} {A : Option Addr} {p : Nat} {w : World} (hs : (⟨s0.t.take 20, s0.v, s0.c, s0.n⟩ : St) = s) (hA : VR w A s0.t.length (iv s0.t)) (hp : s0.t.length ≤ p) : VR w A s.t.length (iv s.t) ∧ s.t.length ≤ 20 ∧ s.t.length ≤ p := by
  subst hs
  refine ⟨?_, by simp only [List.length_take]; omega, by simp only [List.length_take]; omega⟩
  have h := hA.cut (min 20 s0.t.length) (by omega)
  rw [iv_take] at h
  have e : s0.t.take (min 20 s0.t.length) = s0.t.take 20 := by
    apply List.ext_getElem?
    intro i
    rw [List.getElem?_take, List.getElem?_take]
    by_cases h1 : i < 20
    · by_cases h2 : i < s0.t.length
      · rw [if_pos (by omega), if_pos h1]
      · rw [if_neg (by omega), if_pos h1, List.getElem?_eq_none (by omega)]
    · rw [if_neg (by omega), if_neg h1]
  rw [e] at h
  simpa using h

set_option maxHeartbeats 8000000 in
theorem walk (s0 : St) (A : Option Addr) (p : Nat) (x n : Int) (w : World) (hA : VR w A s0.t.length (iv s0.t)) (hp : s0.t.length ≤ p) :
    Calls Try.prog 7 #[.agg (sc s0 A p), .int .i64 x, .int .i64 n] w fun e w' => e = .returned (.bool true) ∧ Below w.heap.size w w' := by
  obtain ⟨b0, hb0⟩ : ∃ b0, w.heap.size = b0 := ⟨_, rfl⟩
  obtain ⟨W, hW⟩ : ∃ W, w.alloc (.cells (sc s0 A p) 25) = W := ⟨_, rfl⟩
  have HB := Lib.hid (show Below w.heap.size w W by rw [← hW]; exact below1 _ _)
  have BS : Hid (Sp.Blk W b0 25 (sc s0 A p)) := Lib.hid (by rw [← hW, ← hb0]; exact Sp.Blk.new _ _ _)
  have CC := Lib.hid (fun X => cut_any s0 A p X hp)
  obtain ⟨s, hs⟩ : ∃ s : St, (⟨s0.t.take 20, s0.v, s0.c, s0.n⟩ : St) = s := ⟨_, rfl⟩
  have hV := cut_st hs hA hp
  rw [hs] at CC
  have HV := Lib.hid hV.1
  have HL := Lib.hid hV.2.1
  have HLP := Lib.hid hV.2.2
  have HZ := Lib.hid hb0
  have s0' := (st_cells BS.out).1
  have s1 := (st_cells BS.out).2.1
  have s2 := (st_cells BS.out).2.2.1
  have s3 := (st_cells BS.out).2.2.2
  clear hs hV hA hp
  go_enter Try.func7, Try.ntmps7
  go_upto_region 2 with (first
    | (go_at_call 19; refine (CC.out _).mono ?_; rintro e1 w1 ⟨rfl, hb1⟩; have H1 := Lib.hid hb1; have x1 := BS.out.later hb1; clear hb1)
    | (with_reducible refine store_p rfl (.tmp 3) (.tmp 17) rfl b0 rfl rfl x1 ?_))
  have HW := Lib.hid (below_row (HB.out.trans (H1.out.mono HB.out.size)) (show w.heap.size ≤ b0 by have := HZ.out; omega) (sc s A p))
  have X1 : Hid (Sp.Blk (w1.setRow b0 (sc s A p)) b0 25 (sc s A p)) := Lib.hid (x1.row _)
  change Code.wp _ _ _ _ (w1.setRow b0 (sc s A p))
  clear hW hb0 CC s0' s1 s2 s3 x1 H1 BS HB
  generalize w1.setRow b0 (sc s A p) = W1 at *
  clear w1
  have V1 := Lib.hid (HV.out.later HW.out)
  have Z1 : Hid (Below W1.heap.size W1 W1) := Lib.hid (Below.refl _ _)
  obtain ⟨R, hR⟩ : ∃ R, decide (Right s) = R := ⟨_, rfl⟩
  have HRD := Lib.hid hR
  have CP : Hid (∀ X, Below W1.heap.size W1 X → Calls Try.prog 11 #[.agg #[.slice A s.t.length p, .int .i64 s.v, .int .i64 s.c, .int .i64 s.n]] X fun e w' => e = .returned (.bool R) ∧ Below X.heap.size X w') := Lib.hid (fun X hX => by rw [← hR]; exact pright_any s A p X (V1.out.later hX) (by have := HL.out; omega))
  have CQ : Hid (∀ X, Below W1.heap.size W1 X → Calls Try.prog 20 #[.agg #[.slice A s.t.length p, .int .i64 s.v, .int .i64 s.c, .int .i64 s.n]] X fun e w' => e = .returned (.bool R) ∧ Below X.heap.size X w') := Lib.hid (fun X hX => by rw [← hR]; exact rright_any s A p X (V1.out.later hX) (by have := HL.out; omega) HLP.out)
  have CF : Hid (∀ X, Calls Try.prog 21 #[.agg #[.slice A s.t.length p, .int .i64 s.v, .int .i64 s.c, .int .i64 s.n]] X fun e w' => e = .returned (.agg #[.slice A s.t.length p, .int .i64 s.v, .int .i64 s.c, .int .i64 s.n]) ∧ Below X.heap.size X w') := Lib.hid (fun X => ref_any 0 s.t.length p A s.v s.c s.n X)
  clear hR
  have s0 : W1.cell? ⟨b0, 0, none⟩ = some (.slice A s.t.length p) := (X1.out.later Z1.out).cell 0; have s1 : W1.cell? ⟨b0, 1, none⟩ = some (.int .i64 s.v) := (X1.out.later Z1.out).cell 1; have s2 : W1.cell? ⟨b0, 2, none⟩ = some (.int .i64 s.c) := (X1.out.later Z1.out).cell 2; have s3 : W1.cell? ⟨b0, 3, none⟩ = some (.int .i64 s.n) := (X1.out.later Z1.out).cell 3
  cases R with
  | false =>
    go_wp2_with (first
      | (go_at_call 18; refine (fixed_any _).mono ?_; rintro e5 w5 ⟨rfl, hb5⟩; have H5 := Lib.hid (H4.out.trans (hb5.mono H4.out.size)); clear hb5)
      | (go_at_call 11; refine (CP.out _ H3.out).mono ?_; rintro e4 w4 ⟨rfl, hb4⟩; have H4 := Lib.hid (H3.out.trans (hb4.mono H3.out.size)); clear hb4)
      | (go_at_call 20; refine (CQ.out _ H2.out).mono ?_; rintro e3 w3 ⟨rfl, hb3⟩; have H3 := Lib.hid (H2.out.trans (hb3.mono H2.out.size)); clear hb3 s0 s1 s2 s3; have s0 : w3.cell? ⟨b0, 0, none⟩ = some (.slice A s.t.length p) := (X1.out.later H3.out).cell 0; have s1 : w3.cell? ⟨b0, 1, none⟩ = some (.int .i64 s.v) := (X1.out.later H3.out).cell 1; have s2 : w3.cell? ⟨b0, 2, none⟩ = some (.int .i64 s.c) := (X1.out.later H3.out).cell 2; have s3 : w3.cell? ⟨b0, 3, none⟩ = some (.int .i64 s.n) := (X1.out.later H3.out).cell 3)
      | (go_at_call 21; refine (CF.out _).mono ?_; rintro e2 w2 ⟨rfl, hb2⟩; have H2 := Lib.hid hb2; clear hb2))
    go_ret
    exact ⟨rfl, HW.out.trans (H5.out.mono HW.out.size)⟩
  | true =>
  have hr : Right s := of_decide_eq_true HRD.out
  have HR := Lib.hid hr
  clear hr
  go_upto_region 4 with (first
    | (go_at_call 20; refine (CQ.out _ H2.out).mono ?_; rintro e3 w3 ⟨rfl, hb3⟩; have H3 := Lib.hid (H2.out.trans (hb3.mono H2.out.size)); clear hb3)
    | (go_at_call 21; refine (CF.out _).mono ?_; rintro e2 w2 ⟨rfl, hb2⟩; have H2 := Lib.hid hb2; clear hb2))
  clear CP CQ CF HRD s0 s1 s2 s3
  have S0 := rows_lit (Sp.Sep.nil (Below.refl w3.heap.size w3)) 3 1
  rw [List.nil_append] at S0
  have HS0 := Lib.hid S0
  clear S0
  go_upto_region 5 with fail
  generalize w3.alloc (.cells #[] 3) = w4 at *
  generalize hn7 : w3.heap.size = n7 at *
  clear hn7
  go_upto_region 6 with fail
  obtain ⟨m, hm⟩ : ∃ m, s.t.length = m := ⟨_, rfl⟩
  have HM := Lib.hid hm
  rw [hm] at V1
  have BS2 : Hid (Sp.Blk W1 b0 25 #[.slice A m p, .int .i64 s.v, .int .i64 s.c, .int .i64 s.n]) := Lib.hid (by rw [← hm]; exact X1.out)
  have HN : Hid (m ≤ 20) := Lib.hid (by rw [← hm]; exact HL.out)
  clear hm X1 HL
  go_loopg [7, 8] m (fun gk s7 s8 wr => ∃ (i k : Nat) (A' : Option Addr) (p' : Nat), i ≤ m ∧ gk = m - i ∧ s7 = .slice A' k p' ∧ s8 = .int .i64 (i : Nat) ∧ Hid (k = (less (s.t.take i) x).length) ∧ Hid (Sp.Sep w3 wr [rowS 3 1 (.slice A' k p') k (iv (less (s.t.take i) x))]))
  case atStart => exact ⟨0, 0, some ⟨n7, 0, none⟩, 0, by omega, rfl, rfl, rfl, Lib.hid (by simp [less]), by simpa [less, iv] using HS0⟩
  case round =>
    obtain ⟨i, k, A', p', hi, hgk, rfl, rfl, HK, HI⟩ := hrel
    have HG := Lib.hid hgk
    clear hgk HS0
    have HWr : Hid (Below W1.heap.size W1 wr) := Lib.hid (H3.out.trans (HI.out.below.mono H3.out.size))
    have c0 : wr.cell? ⟨b0, 0, none⟩ = some (.slice A m p) := (BS2.out.later HWr.out).cell 0
    by_cases hlt : i < m
    · have hl1 : (i : Int) < (m : Int) := by omega
      have wi : IntKind.i64.wrap ((i : Int) + 1) = (i : Int) + 1 := IntWalk.i64_in _ (by have := HN.out; omega)
      obtain ⟨g, o, rfl, hc⟩ := (V1.out.later HWr.out).c (by omega)
      obtain ⟨y, hy⟩ : ∃ y, s.t[i]? = some y := ⟨_, List.getElem?_eq_getElem (by have := HM.out; omega)⟩
      have c1 := hc i _ (iv_at hy)
      have HY := Lib.hid hy
      clear hc hy
      by_cases hxy : y = x
      · subst hxy
        have h5 : (y != y) = false := by simp
        have HK2 : Hid (less (s.t.take (i + 1)) y = less (s.t.take i) y) := Lib.hid (by rw [take_one HY.out]; simp [less])
        go_wp2_with fail
        go_roundg (m - (i + 1))
        case measure => have := HG.out; omega
        case rel => exact ⟨i + 1, k, A', p', by omega, by have := HG.out; omega, rfl, by go_num, Lib.hid (by rw [HK2.out]; exact HK.out), Lib.hid (by rw [HK2.out]; exact HI.out)⟩
      · have h5 : (y != x) = true := by simp; exact hxy
        have HK2 : Hid (less (s.t.take (i + 1)) x = less (s.t.take i) x ++ [y]) := Lib.hid (by rw [take_one HY.out]; unfold less; rw [List.filter_append]; simp [hxy])
        have hk1 : k < 1000 := by have h1 := HK.out; have h2 := less_len (s.t.take i) x; rw [List.length_take] at h2; have := HN.out; omega
        obtain ⟨v', W5, hrun, S5⟩ := rows_pushS (cs := [.int .i64 y]) HI.out (k := 0) rfl Try.underlying23 int_infos rfl (by decide) (by decide) hk1 rfl (by intro u hu; rw [List.mem_singleton.1 hu]; rfl)
        obtain ⟨A9, p9, rfl⟩ := rows_slice S5 (k := 0) rfl
        have H6 : Hid (Sp.Sep w3 W5 [rowS 3 1 (.slice A9 (k + 1) p9) (k + 1) (iv (less (s.t.take (i + 1)) x))]) := Lib.hid (by rw [HK2.out, iv_snoc]; exact S5)
        have HK3 : Hid (k + 1 = (less (s.t.take (i + 1)) x).length) := Lib.hid (by rw [HK2.out, List.length_append, ← HK.out]; rfl)
        clear S5
        go_wp2_with (at_builtin; refine wp_push 23 rfl (.tmp 43) (.tmp 49) rfl rfl _ _ rfl rfl hrun ?_)
        go_roundg (m - (i + 1))
        case measure => have := HG.out; omega
        case rel => exact ⟨i + 1, k + 1, A9, p9, by omega, by have := HG.out; omega, rfl, by go_num, HK3, H6⟩
    · obtain rfl : i = m := by omega
      have hl1 : ¬ (i : Int) < (i : Int) := by omega
      have HTK : Hid (s.t.take i = s.t) := Lib.hid (List.take_of_length_le (by have := HM.out; omega))
      rw [HTK.out] at HK HI
      have VR7 := Lib.hid (VR.of_row HI.out (k := 0) rfl (by rw [iv_len, ← HK.out]))
      have H4 := HWr
      clear HI HTK
      have hm := HM.out
      have c1 : wr.cell? ⟨b0, 1, none⟩ = some (.int .i64 s.v) := (BS2.out.later H4.out).cell 1
      have c2 : wr.cell? ⟨b0, 2, none⟩ = some (.int .i64 s.c) := (BS2.out.later H4.out).cell 2
      have c3 : wr.cell? ⟨b0, 3, none⟩ = some (.int .i64 s.n) := (BS2.out.later H4.out).cell 3
      have CT : Hid (Calls Try.prog 23 #[.agg #[.slice A i p, .int .i64 s.v, .int .i64 s.c, .int .i64 s.n], .int .i64 x, .int .i64 n] wr (OutP wr (takes s x n))) := Lib.hid (by
        have h := ptake_any s A p x n wr HR.out (by rw [hm]; exact V1.out.later H4.out)
        rw [show (sc s A p) = #[.slice A i p, .int .i64 s.v, .int .i64 s.c, .int .i64 s.n] by rw [← hm]] at h
        exact h)
      clear hm
      obtain ⟨O, hO⟩ : ∃ O, takes s x n = O := ⟨_, rfl⟩
      have HO := Lib.hid hO
      rw [hO] at CT
      clear hO
      go_upto_region 11 with (go_at_call 23; refine CT.out.mono ?_; rintro e5 w5 ⟨A5, p5, rfl, S5⟩; have Q5 := Lib.hid S5; clear S5)
      change Code.wp _ _ _ _ (w5.alloc (.cells (sc (st O) A5 p5) 25))
      have HQ5 := Lib.hid (Q5.out.below)
      have H5 := Lib.hid (H4.out.trans ((HQ5.out.trans ((below1 w5 (.cells (sc (st O) A5 p5) 25)).mono HQ5.out.size)).mono H4.out.size))
      have c0 : (w5.alloc (.cells (sc (st O) A5 p5) 25)).cell? ⟨b0, 0, none⟩ = some (.slice A i p) := (BS2.out.later H5.out).cell 0
      have c1 : (w5.alloc (.cells (sc (st O) A5 p5) 25)).cell? ⟨b0, 1, none⟩ = some (.int .i64 s.v) := (BS2.out.later H5.out).cell 1
      have ek : k = (less s.t x).length := HK.out
      have em : s.t.length = i := HM.out
      have hv := HR.out.v
      unfold VicOk at hv
      by_cases k1 : s.v = -1
      case neg =>
        have d1 : (s.v == -1) = false := by simp; exact k1
        have hz : O = none := by rw [← HO.out]; unfold takes; rw [if_pos (.inl (by omega))]
        subst hz
        clear k1 hv ek em
        have z1 : (er none == 0) = false := by decide
        have z2 : (er none != 0) = true := by decide
        have z3 : (er none == 1) = true := by decide
        have er1 : ((1 : Int) == 1) = true := by decide
        go_wp2_with (go_at_call 18; refine (fixed_any _).mono ?_; rintro e6 w6 ⟨rfl, hb6⟩; have H6 := Lib.hid (H5.out.trans (hb6.mono H5.out.size)); clear hb6)
        go_ret
        exact ⟨rfl, HW.out.trans (H6.out.mono HW.out.size)⟩
      have d1 : (s.v == -1) = true := by simp; exact k1
      by_cases k2 : x ∈ s.t
      case neg =>
        have hz : O = none := by rw [← HO.out]; unfold takes; rw [if_pos (.inr (.inl k2))]
        subst hz
        rw [less_none k2, em] at ek
        subst ek
        have d2 : decide ((k : Int) < (k : Int)) = false := by simp
        clear k1 k2 hv em
        have z1 : (er none == 0) = false := by decide
        have z2 : (er none != 0) = true := by decide
        have z3 : (er none == 1) = true := by decide
        have er1 : ((1 : Int) == 1) = true := by decide
        go_wp2_with (go_at_call 18; refine (fixed_any _).mono ?_; rintro e6 w6 ⟨rfl, hb6⟩; have H6 := Lib.hid (H5.out.trans (hb6.mono H5.out.size)); clear hb6)
        go_ret
        exact ⟨rfl, HW.out.trans (H6.out.mono HW.out.size)⟩
      have hlt2 := less_eq k2
      have d2 : (k : Int) < (i : Int) := by omega
      have d2' : decide ((k : Int) < (i : Int)) = true := decide_eq_true d2
      by_cases k3 : 0 ≤ n
      case neg =>
        have d3 : decide (0 ≤ n) = false := decide_eq_false k3
        have hz : O = none := by rw [← HO.out]; unfold takes; rw [if_pos (.inr (.inr (.inl (by omega))))]
        subst hz
        clear k1 k2 k3 hv em ek hlt2
        have z1 : (er none == 0) = false := by decide
        have z2 : (er none != 0) = true := by decide
        have z3 : (er none == 1) = true := by decide
        have er1 : ((1 : Int) == 1) = true := by decide
        go_wp2_with (go_at_call 18; refine (fixed_any _).mono ?_; rintro e6 w6 ⟨rfl, hb6⟩; have H6 := Lib.hid (H5.out.trans (hb6.mono H5.out.size)); clear hb6)
        go_ret
        exact ⟨rfl, HW.out.trans (H6.out.mono HW.out.size)⟩
      have d3 : decide (0 ≤ n) = true := decide_eq_true k3
      by_cases k4 : n ≤ 30
      case neg =>
        have d4 : decide (n ≤ 30) = false := decide_eq_false k4
        have hz : O = none := by rw [← HO.out]; unfold takes; rw [if_pos (.inr (.inr (.inr (by omega))))]
        subst hz
        clear k1 k2 k3 k4 hv em ek hlt2
        have z1 : (er none == 0) = false := by decide
        have z2 : (er none != 0) = true := by decide
        have z3 : (er none == 1) = true := by decide
        have er1 : ((1 : Int) == 1) = true := by decide
        go_wp2_with (go_at_call 18; refine (fixed_any _).mono ?_; rintro e6 w6 ⟨rfl, hb6⟩; have H6 := Lib.hid (H5.out.trans (hb6.mono H5.out.size)); clear hb6)
        go_ret
        exact ⟨rfl, HW.out.trans (H6.out.mono HW.out.size)⟩
      have d4 : decide (n ≤ 30) = true := decide_eq_true k4
      obtain ⟨l, hl⟩ : ∃ l, less s.t x = l := ⟨_, rfl⟩
      have hz : O = some ⟨l, x, 0, n⟩ := by rw [← HO.out, ← hl]; unfold takes; rw [if_neg (by rintro (h | h | h | h); omega; exact h k2; omega; omega)]
      have hr := takes_right HR.out (HO.out.trans hz)
      have HR2 := Lib.hid hr
      subst hz
      rw [hl] at ek VR7
      subst ek
      have hx0 := hr.v
      unfold VicOk at hx0
      simp only at hx0
      have hx : 0 ≤ x := (HR.out.t.1 x k2).1
      have HX := Lib.hid hx
      obtain ⟨N, rfl⟩ : ∃ N : Nat, n = (N : Int) := ⟨n.toNat, by omega⟩
      have HN30 : Hid (N ≤ 30) := Lib.hid (by omega)
      clear k1 k2 k3 k4 hv em hlt2 hr hx hx0 HO HK hl CT
      have z1 : (er (some ⟨l, x, 0, (N : Int)⟩ : Option St) == 0) = true := rfl
      have z2 : (er (some ⟨l, x, 0, (N : Int)⟩ : Option St) != 0) = false := rfl
      have v5 : VR w5 A5 l.length (iv l) := VR.of_row Q5.out (k := 0) rfl (iv_len l).symm
      have NB5 := Lib.hid (Od.Nb.far v5 (Nat.le_refl _))
      have v7 := VR7.out.later HQ5.out
      have NB7 := Lib.hid (Od.Nb.far v7 (Nat.le_refl _))
      have V5 := Lib.hid (v5.later (below1 w5 (.cells #[.slice A5 l.length p5, .int .i64 x, .int .i64 0, .int .i64 (N : Int)] 25)))
      have V7 := Lib.hid (v7.later (below1 w5 (.cells #[.slice A5 l.length p5, .int .i64 x, .int .i64 0, .int .i64 (N : Int)] 25)))
      have B9 : Hid (Sp.Blk (w5.alloc (.cells #[.slice A5 l.length p5, .int .i64 x, .int .i64 0, .int .i64 (N : Int)] 25)) w5.heap.size 25 #[.slice A5 l.length p5, .int .i64 x, .int .i64 0, .int .i64 (N : Int)]) := Lib.hid (Sp.Blk.new _ _ _)
      have HN9 : Hid (W1.heap.size ≤ w5.heap.size) := Lib.hid (by have := H4.out.size; have := HQ5.out.size; omega)
      change Hid (Below W1.heap.size W1 (w5.alloc (.cells #[.slice A5 l.length p5, .int .i64 x, .int .i64 0, .int .i64 (N : Int)] 25))) at H5
      change (w5.alloc (.cells #[.slice A5 l.length p5, .int .i64 x, .int .i64 0, .int .i64 (N : Int)] 25)).cell? ⟨b0, 0, none⟩ = some (.slice A i p) at c0
      change (w5.alloc (.cells #[.slice A5 l.length p5, .int .i64 x, .int .i64 0, .int .i64 (N : Int)] 25)).cell? ⟨b0, 1, none⟩ = some (.int .i64 s.v) at c1
      change Code.wp _ _ _ _ (w5.alloc (.cells #[.slice A5 l.length p5, .int .i64 x, .int .i64 0, .int .i64 (N : Int)] 25))
      clear v5 v7 VR7 Q5 HQ5
      generalize w5.alloc (.cells #[.slice A5 l.length p5, .int .i64 x, .int .i64 0, .int .i64 (N : Int)] 25) = W5 at *
      generalize w5.heap.size = n9 at *
      clear w5
      have hl20 : l.length ≤ 1000 := by have := right_len HR2.out; simp only at this; omega
      have CI : Hid (Calls Try.prog 27 #[.slice A5 l.length p5, .slice A' l.length p'] W5 fun e w' => e = .returned (.bool true) ∧ Below W5.heap.size W5 w') := Lib.hid (by have h := rints_any A5 l.length p5 A' l.length p' l l W5 V5.out V7.out hl20; rw [show decide (l = l) = true by simp] at h; exact h)
      clear hl20
      have q0 := B9.out.cell 0
      have q1 := B9.out.cell 1
      have q2 := B9.out.cell 2
      have q3 := B9.out.cell 3
      simp only [List.getElem?_toArray, List.getElem?_cons_zero, List.getElem?_cons_succ] at q0 q1 q2 q3
      go_upto_region 18 with (go_at_call 27; refine CI.out.mono ?_; rintro e6 w6 ⟨rfl, hb6⟩; have Q6 := Lib.hid hb6; have b6 := B9.out.later hb6; clear hb6 q0 q1 q2 q3; have q1 : w6.cell? ⟨n9, 1, none⟩ = _ := b6.cell 1; have q2 : w6.cell? ⟨n9, 2, none⟩ = _ := b6.cell 2; have q3 : w6.cell? ⟨n9, 3, none⟩ = _ := b6.cell 3; simp only [List.getElem?_toArray, List.getElem?_cons_zero, List.getElem?_cons_succ] at q1 q2 q3)
      have H6 := Lib.hid (H5.out.trans (Q6.out.mono H5.out.size))
      have B6 := Lib.hid (B9.out.later Q6.out)
      have V56 := Lib.hid (V5.out.later Q6.out)
      have V76 := Lib.hid (V7.out.later Q6.out)
      clear c0 c1 c2 c3 q1 q2 q3 Q6 B9 V5 V7 b6 H5 CI
      go_loopg [11] N (fun gk s11 wr => ∃ (i : Nat) (Ai : Option Addr) (pi : Nat), i ≤ N ∧ gk = N - i ∧ s11 = .int .i64 (i : Nat) ∧ Hid (Below W1.heap.size W1 wr) ∧ Hid (Sp.Blk wr n9 25 #[.slice Ai l.length pi, .int .i64 x, .int .i64 (i : Int), .int .i64 (N : Int)]) ∧ Hid (VR wr Ai l.length (iv l)) ∧ Hid (VR wr A' l.length (iv l)) ∧ Hid (Od.Nb Ai l.length n9))
      case atStart => exact ⟨0, A5, p5, by omega, rfl, rfl, H6, B6, V56, V76, NB5⟩
      case round =>
        obtain ⟨j, Ai, pi, hj, hgk, rfl, HB, HK9, VI, VA, NI⟩ := hrel
        have HG2 := Lib.hid hgk
        clear hgk H6 B6 V56 V76 NB5
        have hn30 := HN30.out
        have HRJ : Hid (Right ⟨l, x, (j : Int), (N : Int)⟩) := Lib.hid ⟨HR2.out.t, .inr (by have h := HR2.out.v; unfold VicOk at h; simp only at h ⊢; have := HX.out; omega)⟩
        by_cases hlt : j < N
        · have hl1 : (j : Int) < (N : Int) := by omega
          have wi : IntKind.i64.wrap ((j : Int) + 1) = (j : Int) + 1 := IntWalk.i64_in _ (by omega)
          have wj : IntKind.i64.wrap ((N : Int) - (j : Int)) = (N : Int) - (j : Int) := IntWalk.i64_in _ (by omega)
          have wk : IntKind.i64.wrap ((N : Int) - (j : Int) - 1) = (N : Int) - (j : Int) - 1 := IntWalk.i64_in _ (by omega)
          have hs : sees ⟨l, x, (j : Int), (N : Int)⟩ = some ⟨l, x, (j : Int) + 1, (N : Int)⟩ := by unfold sees next; simp only; rw [if_pos (if_pos ⟨HX.out, hl1⟩)]
          have CS : Hid (Calls Try.prog 24 #[.agg #[.slice Ai l.length pi, .int .i64 x, .int .i64 (j : Int), .int .i64 (N : Int)]] wr (OutP wr (some ⟨l, x, (j : Int) + 1, (N : Int)⟩))) := Lib.hid (by have h := psees_any ⟨l, x, (j : Int), (N : Int)⟩ Ai pi wr HRJ.out VI.out; rw [hs] at h; exact h)
          have HRS := Lib.hid (sees_right HRJ.out hs)
          have CN : Hid (∀ X A p, Calls Try.prog 12 #[.agg #[.slice A l.length p, .int .i64 x, .int .i64 ((j : Int) + 1), .int .i64 (N : Int)], .int .i64 30] X fun e w' => e = .returned (.int .i64 ((N : Int) - (j : Int) - 1)) ∧ Below X.heap.size X w') := Lib.hid (fun X A p => by
            have h := pneed_any ⟨l, x, (j : Int) + 1, (N : Int)⟩ A p 30 X HRS.out
            rw [show need ⟨l, x, (j : Int) + 1, (N : Int)⟩ 30 = (N : Int) - (j : Int) - 1 by unfold need; simp only; rw [if_pos HX.out]; omega] at h
            exact h)
          have k9 := HK9.out
          clear hs hn30
          go_upto_region 21 with (first
            | (with_reducible refine load_p rfl (.tmp 9) rfl n9 rfl k9 ?_)
            | (go_at_call 24; refine CS.out.mono ?_; rintro e7 w7 ⟨A7, p7, rfl, S7⟩; have Q7 := Lib.hid S7; clear S7))
          change Code.wp _ _ _ _ (w7.alloc (.cells #[.slice A7 l.length p7, .int .i64 x, .int .i64 ((j : Int) + 1), .int .i64 (N : Int)] 25))
          have v7 : VR w7 A7 l.length (iv l) := VR.of_row Q7.out (k := 0) rfl (iv_len l).symm
          have N7 : Hid (Od.Nb A7 l.length n9) := Lib.hid (fun _ a ha => by have h1 := row_fresh Q7.out (k := 0) rfl a ha; have := HK9.out.lt; omega)
          have H8 : Hid (Below wr.heap.size wr (w7.alloc (.cells #[.slice A7 l.length p7, .int .i64 x, .int .i64 ((j : Int) + 1), .int .i64 (N : Int)] 25))) := Lib.hid (Q7.out.below.trans ((below1 w7 _).mono Q7.out.below.size))
          have V8 := Lib.hid (v7.later (below1 w7 (.cells #[.slice A7 l.length p7, .int .i64 x, .int .i64 ((j : Int) + 1), .int .i64 (N : Int)] 25)))
          have B8 : Hid (Sp.Blk (w7.alloc (.cells #[.slice A7 l.length p7, .int .i64 x, .int .i64 ((j : Int) + 1), .int .i64 (N : Int)] 25)) w7.heap.size 25 #[.slice A7 l.length p7, .int .i64 x, .int .i64 ((j : Int) + 1), .int .i64 (N : Int)]) := Lib.hid (Sp.Blk.new _ _ _)
          clear v7 Q7 k9
          generalize w7.alloc (.cells #[.slice A7 l.length p7, .int .i64 x, .int .i64 ((j : Int) + 1), .int .i64 (N : Int)] 25) = W8 at *
          generalize w7.heap.size = n12 at *
          clear w7
          have m0 := B8.out.cell 0
          have m1 := B8.out.cell 1
          have m2 := B8.out.cell 2
          have m3 := B8.out.cell 3
          simp only [List.getElem?_toArray, List.getElem?_cons_zero, List.getElem?_cons_succ] at m0 m1 m2 m3
          have y1 : (er (some ⟨l, x, (j : Int) + 1, (N : Int)⟩ : Option St) != 0) = false := rfl
          have y2 : ((N : Int) - (j : Int) - 1 != (N : Int) - (j : Int) - 1) = false := by simp
          go_upto_region 23 with (go_at_call 12; refine (CN.out _ _ _).mono ?_; rintro e9 w9 ⟨rfl, hb9⟩; have Q9 := Lib.hid hb9; clear hb9 m0 m1 m2 m3)
          have b12 := B8.out.later Q9.out
          have H9 := Lib.hid (H8.out.trans (Q9.out.mono H8.out.size))
          have k9 := HK9.out.later H9.out
          go_wp2_with (first
            | (with_reducible refine load_p rfl (.tmp 12) rfl n12 rfl b12 ?_)
            | (with_reducible refine store_p rfl (.tmp 9) (.tmp 137) rfl n9 rfl rfl k9 ?_))
          go_roundg (N - (j + 1))
          case measure => have := HG2.out; omega
          case rel =>
            refine ⟨j + 1, A7, p7, by omega, by have := HG2.out; omega, by go_num, Lib.hid (below_row (HB.out.trans (H9.out.mono HB.out.size)) HN9.out _), Lib.hid ?_, Lib.hid (Od.Nb.row (V8.out.later Q9.out) N7.out _), Lib.hid (Od.Nb.row (VA.out.later H9.out) NB7.out _), N7⟩
            have := k9.row #[.slice A7 l.length p7, .int .i64 x, .int .i64 ((j : Int) + 1), .int .i64 (N : Int)]
            simpa using this
        · obtain rfl : j = N := by omega
          have hl1 : ¬ ((j : Int) < (j : Int)) := by omega
          have hs : gives ⟨l, x, (j : Int), (j : Int)⟩ = some ⟨l, -1, 0, 0⟩ := by unfold gives next; simp only; rw [if_pos (by rw [if_neg (by omega), if_pos HX.out])]
          have CS : Hid (Calls Try.prog 25 #[.agg #[.slice Ai l.length pi, .int .i64 x, .int .i64 (j : Int), .int .i64 (j : Int)]] wr (OutP wr (some ⟨l, -1, 0, 0⟩))) := Lib.hid (by have h := pgiven_any ⟨l, x, (j : Int), (j : Int)⟩ Ai pi wr HRJ.out VI.out; rw [hs] at h; exact h)
          have hl20 : l.length ≤ 1000 := by have := right_len HR2.out; simp only at this; omega
          have HL20 := Lib.hid hl20
          have k9 := HK9.out
          clear hs hn30 hl20
          go_upto_region 25 with (first
            | (with_reducible refine load_p rfl (.tmp 9) rfl n9 rfl k9 ?_)
            | (go_at_call 25; refine CS.out.mono ?_; rintro e7 w7 ⟨A7, p7, rfl, S7⟩; have Q7 := Lib.hid S7; clear S7))
          change Code.wp _ _ _ _ (w7.alloc (.cells #[.slice A7 l.length p7, .int .i64 (-1), .int .i64 0, .int .i64 0] 25))
          have v7 : VR w7 A7 l.length (iv l) := VR.of_row Q7.out (k := 0) rfl (iv_len l).symm
          have N7 : Hid (Od.Nb A7 l.length n9) := Lib.hid (fun _ a ha => by have h1 := row_fresh Q7.out (k := 0) rfl a ha; have := HK9.out.lt; omega)
          have H8 : Hid (Below wr.heap.size wr (w7.alloc (.cells #[.slice A7 l.length p7, .int .i64 (-1), .int .i64 0, .int .i64 0] 25))) := Lib.hid (Q7.out.below.trans ((below1 w7 _).mono Q7.out.below.size))
          have V8 := Lib.hid (v7.later (below1 w7 (.cells #[.slice A7 l.length p7, .int .i64 (-1), .int .i64 0, .int .i64 0] 25)))
          have B8 : Hid (Sp.Blk (w7.alloc (.cells #[.slice A7 l.length p7, .int .i64 (-1), .int .i64 0, .int .i64 0] 25)) w7.heap.size 25 #[.slice A7 l.length p7, .int .i64 (-1), .int .i64 0, .int .i64 0]) := Lib.hid (Sp.Blk.new _ _ _)
          clear v7 Q7 k9
          generalize w7.alloc (.cells #[.slice A7 l.length p7, .int .i64 (-1), .int .i64 0, .int .i64 0] 25) = W8 at *
          generalize w7.heap.size = n12 at *
          clear w7
          have m0 := B8.out.cell 0
          have m1 := B8.out.cell 1
          have m2 := B8.out.cell 2
          have m3 := B8.out.cell 3
          simp only [List.getElem?_toArray, List.getElem?_cons_zero, List.getElem?_cons_succ] at m0 m1 m2 m3
          have y1 : (er (some ⟨l, -1, 0, 0⟩ : Option St) == 0) = true := rfl
          have CF : Hid (∀ X, Calls Try.prog 21 #[.agg #[.slice A7 l.length p7, .int .i64 (-1), .int .i64 0, .int .i64 0]] X fun e w' => e = .returned (.agg #[.slice A7 l.length p7, .int .i64 (-1), .int .i64 0, .int .i64 0]) ∧ Below X.heap.size X w') := Lib.hid (fun X => ref_any 0 l.length p7 A7 (-1) 0 0 X)
          have CE : Hid (∀ X, Below W8.heap.size W8 X → Calls Try.prog 26 #[.agg #[.slice A7 l.length p7, .int .i64 (-1), .int .i64 0, .int .i64 0], .agg #[.slice A' l.length p', .int .i64 (-1), .int .i64 0, .int .i64 0]] X fun e w' => e = .returned (.bool true) ∧ Below X.heap.size X w') := Lib.hid (fun X hX => rsame_any ⟨l, -1, 0, 0⟩ ⟨l, -1, 0, 0⟩ A7 p7 A' p' X (V8.out.later hX) ((VA.out.later H8.out).later hX) HL20.out true (by simp))
          go_wp2_with (first
            | (go_at_call 18; refine (fixed_any _).mono ?_; rintro e11 w11 ⟨rfl, hb11⟩; have Q11 := Lib.hid (Q10.out.trans (hb11.mono Q10.out.size)); clear hb11)
            | (go_at_call 26; refine (CE.out _ Q9.out).mono ?_; rintro e10 w10 ⟨rfl, hb10⟩; have Q10 := Lib.hid (Q9.out.trans (hb10.mono Q9.out.size)); clear hb10)
            | (go_at_call 21; refine (CF.out _).mono ?_; rintro e9 w9 ⟨rfl, hb9⟩; have Q9 := Lib.hid hb9; clear hb9))
          go_ret
          exact ⟨rfl, HW.out.trans ((HB.out.trans ((H8.out.trans (Q11.out.mono H8.out.size)).mono HB.out.size)).mono HW.out.size)⟩

set_option maxRecDepth 100000 in
theorem lifted (os : Os) (started : os.Started) (H : Type) (enc : TypeId × Value → H) :
    ReturnsInHanded {} Try.checked os 7 .any (Rows.sweepTakesSpec.pre6 enc Try.prog Try.f7 Rows.sweepTakesRow.domain false) (Rows.sweepTakesSpec.post enc Try.prog Try.f7 false true false false) := by
  refine returnsInHanded_of_change (C := Try.checked) own started (by kernel_rfl) Try.func7
    (ChangeSpec.witness6 (enc := enc) (C := Try.checked) false ⟨#[], #[.agg #[.slice none 0 0, .int .i64 0, .int .i64 0, .int .i64 0], .int .i64 0, .int .i64 0], []⟩ 8 (by kernel_rfl) (by kernel_rfl) (by kernel_rfl) (by kernel_rfl)) ?_
  intro W base args ds gs before hval0 hW hcnd _
  have hval : ∀ (j : Nat) t v, Try.f7.params[j]? = some t → args[j]? = some v → Value.okWide Try.prog W .any base t v := hval0
  have hW' := hW
  obtain ⟨p, q, hA0, hV, rfl, hfz, hnd⟩ := hW
  have hA : DataW.TrodAll enc Try.prog W 0 (fun _ => true) true Try.f7.params.toList args.toList ds p := hA0
  rw [Try.params7] at hA hval
  obtain ⟨v0, vs0, d0, ds0, p0, q0, hargs, rfl, rfl, h0, r0⟩ := trodAll_cons hA
  obtain ⟨v1, vs1, d1, ds1, p1, q1, rfl, rfl, rfl, h1, r1⟩ := trodAll_cons r0
  obtain ⟨v2, vs2, d2, ds2, p2, q2, rfl, rfl, rfl, h2, r2⟩ := trodAll_cons r1
  obtain ⟨rfl, rfl, rfl⟩ := trodAll_nil r2
  obtain rfl : args = #[v0, v1, v2] := by cases args; simp_all
  obtain ⟨rfl, rfl⟩ := trodVars_none hV
  obtain ⟨st0, Ad0, cp0, rfl, g0, l0⟩ := open_state (hval 0 25 v0 rfl rfl) h0
  obtain ⟨a1, rfl, rfl, rfl, w1⟩ := open_int Try.underlying3 (hval 1 3 v1 rfl rfl) h1
  obtain ⟨a2, rfl, rfl, rfl, w2⟩ := open_int Try.underlying3 (hval 2 3 v2 rfl rfl) h2
  clear hA0 hval0
  try simp only [List.append_nil] at hW'
  try simp only [List.nil_append] at hW'
  have hlt := fun x hx => hW'.lt x hx
  refine (walk st0 Ad0 cp0 a1 a2 W g0 l0).mono fun e W' ⟨he, hg⟩ => ?_
  subst he
  refine ⟨_, rfl, post_mem hW' (fun _ _ _ => (trodAll_cons_mk (shut_bool Try.underlying4 _) trodAll_mk0)) (fun sp hsp => ?_) (fun _ => rfl) hg (ok_one (by kernel_rfl) rfl (okWide_bool_mk Try.underlying4 _))⟩
  have hall := (trodAll_cons_mk (arg_same (sp := sp) laid (by kernel_rfl) (of_decide_eq_true (by kernel_rfl)) h0 hg (by intro x hx; simp_all) hlt hsp) (trodAll_cons_mk (arg_same (sp := sp) laid (by kernel_rfl) (of_decide_eq_true (by kernel_rfl)) h1 hg (by intro x hx; simp_all) hlt hsp) (trodAll_cons_mk (arg_same (sp := sp) laid (by kernel_rfl) (of_decide_eq_true (by kernel_rfl)) h2 hg (by intro x hx; simp_all) hlt hsp) trodAll_mk0)))
  try simp only [List.append_nil] at hall
  try simp only [List.nil_append] at hall
  exact hall

theorem over : Rows.sweepTakesRow.holds Try.pinned (OpenSpec.ofChange Rows.sweepTakesSpec) :=
  OpenClaim.holds_of_wide 7 Try.f7 rfl rfl rfl rfl rfl rfl rfl ⟨rfl, rfl, rfl, rfl, rfl⟩ rfl rfl rfl rfl rfl (by kernel_rfl) Try.func7 (by kernel_rfl)
    (of_decide_eq_true (by kernel_rfl)) (by unfold Func.isWrapper; first | (rw [if_pos (by decide +kernel)]; kernel_rfl) | (rw [if_neg (by decide +kernel)]; exact ⟨rfl, rfl⟩))
    (fun os started H enc _ => lifted os started H enc)

theorem proved : Rows.SweepTakesSaid := over
#print axioms proved
end Go.Proofs.Ytfhdckmpodmejaa.sweepTakes
