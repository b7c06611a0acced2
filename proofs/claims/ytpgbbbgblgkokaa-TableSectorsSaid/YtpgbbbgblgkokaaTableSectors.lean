/- For every number of segments' records and every two places the statement TableSectors about table.Sector returns true, and changes nothing. Conditions: none. -/
import Derived.Test.YtpgbbbgblgkokaaTbX
import Derived.Test.YtpgbbbgblgkokaaFrame
import Derived.Deep.DeepCutAuto
import Derived.Deep.LoopGhost
import Derived.Deep.RegionWith
import Derived.StillTailTactics
import Derived.WalkSmall
import Derived.IntWalk
import Derived.ProofKit
import Derived.OpenShut
import Derived.ShutString
import Derived.SizedLaws
import Derived.Lib.SmallJoins
namespace Go.Proofs.Ytpgbbbgblgkokaa.tableSectors
open Go.ChangeShapes Go.WideShapes Go.ChangeAt Go.RowKit Go.Lib
open Go.ChangeMaps (open_string shut_string)
open Go.Joins Go.Deep
set_option linter.unusedVariables false

theorem own : ownKnob Try.prog.godebug = none := by kernel_rfl

theorem and_mask (n : Int) (k : Nat) (hk : k < 256) : 0 ≤ bits .and .i64 n (k : Nat) ∧ bits .and .i64 n (k : Nat) ≤ k := by
  have e : bits .and .i64 n (k : Nat) = IntKind.i64.wrap ((BitVec.ofInt 64 n &&& BitVec.ofInt 64 (k : Nat)).toNat : Int) := rfl
  have h : (BitVec.ofInt 64 n &&& BitVec.ofInt 64 (k : Nat)).toNat ≤ k := by
    rw [BitVec.toNat_and]
    have : (BitVec.ofInt 64 ((k : Nat) : Int)).toNat = k := by
      rw [BitVec.ofInt_natCast, BitVec.toNat_ofNat, Nat.mod_eq_of_lt (by omega)]
    rw [this]
    exact Nat.and_le_right
  rw [e, IntWalk.i64_in _ (by omega)]
  omega
theorem place_iff (N s r t u : Int) (hN : 1 ≤ N) (h1 : 0 ≤ r ∧ r < N) (h2 : 0 ≤ u ∧ u < N) : 2 + s * N + r = 2 + t * N + u ↔ s = t ∧ r = u := by
  constructor
  · intro h
    rcases Int.lt_trichotomy s t with hs | hs | hs
    · have := Int.mul_le_mul_of_nonneg_right (show s + 1 ≤ t by omega) (show 0 ≤ N by omega)
      rw [Int.add_mul] at this
      omega
    · subst hs
      exact ⟨rfl, by omega⟩
    · have := Int.mul_le_mul_of_nonneg_right (show t + 1 ≤ s by omega) (show 0 ≤ N by omega)
      rw [Int.add_mul] at this
      omega
  · rintro ⟨rfl, rfl⟩
    rfl

set_option maxRecDepth 100000 in
set_option maxHeartbeats 8000000 in
theorem walk (a0 x0 x1 y0 y1 : Int) (w0 : (Lit.int .u8 a0).wf = true) (wa : (Lit.int .i64 x0).wf = true) (wb : (Lit.int .i64 x1).wf = true) (wc : (Lit.int .i64 y0).wf = true) (wd : (Lit.int .i64 y1).wf = true) (w : World) :
    Calls Try.prog 7 #[.int .u8 a0, .agg #[.int .i64 x0, .int .i64 x1], .agg #[.int .i64 y0, .int .i64 y1]] w fun e w' => e = .returned (.bool true) ∧ Below w.heap.size w w' := by
  have h0 := u8_of w0
  obtain ⟨s, Es⟩ : ∃ s, bits .and .i64 x0 15 = s := ⟨_, rfl⟩
  obtain ⟨c, Ec⟩ : ∃ s, bits .and .i64 x1 255 = s := ⟨_, rfl⟩
  obtain ⟨t, Et⟩ : ∃ s, bits .and .i64 y0 15 = s := ⟨_, rfl⟩
  obtain ⟨d, Ed⟩ : ∃ s, bits .and .i64 y1 255 = s := ⟨_, rfl⟩
  have bs : 0 ≤ s ∧ s ≤ 15 := by rw [← Es]; exact and_mask x0 15 (by omega)
  have bc : 0 ≤ c ∧ c ≤ 255 := by rw [← Ec]; exact and_mask x1 255 (by omega)
  have bt : 0 ≤ t ∧ t ≤ 15 := by rw [← Et]; exact and_mask y0 15 (by omega)
  have bd : 0 ≤ d ∧ d ≤ 255 := by rw [← Ed]; exact and_mask y1 255 (by omega)
  have X0 := (Blk.new w 53 #[.int .i64 x0, .int .i64 x1]).later (below1 _ (.cells #[.int .i64 y0, .int .i64 y1] 53))
  have Y0 := Blk.at_ (b := w.heap.size + 1) (w.alloc (.cells #[.int .i64 x0, .int .i64 x1] 53)) 53 #[.int .i64 y0, .int .i64 y1] (by simp)
  have BB : Below w.heap.size w ((w.alloc (.cells #[.int .i64 x0, .int .i64 x1] 53)).alloc (.cells #[.int .i64 y0, .int .i64 y1] 53)) := Ge.trans (below1 _ _) (below1 _ _)
  obtain ⟨n, Hn⟩ : ∃ n, Hid (1 + a0 % 30 = n) := ⟨_, Lib.hid rfl⟩
  have bn : 1 ≤ n ∧ n ≤ 30 := by have := Hn.out; omega
  obtain ⟨N, HN⟩ : ∃ N, Hid (n + 1 = N) := ⟨_, Lib.hid rfl⟩
  have e1 : IntKind.i64.wrap (n + 1) = N := by rw [HN.out]; exact IntWalk.i64_in _ (by have := HN.out; omega)
  have bN : 2 ≤ N ∧ N ≤ 31 := by have := HN.out; omega
  have nz : ¬ N = 0 := by omega
  obtain ⟨r, Hr⟩ : ∃ r, c.tmod N = r := ⟨_, rfl⟩
  obtain ⟨u, Hu⟩ : ∃ r, d.tmod N = r := ⟨_, rfl⟩
  have br : 0 ≤ r ∧ r < N := by rw [← Hr, Int.tmod_eq_emod_of_nonneg (by omega)]; exact ⟨Int.emod_nonneg _ (by omega), Int.emod_lt_of_pos _ (by omega)⟩
  have bu : 0 ≤ u ∧ u < N := by rw [← Hu, Int.tmod_eq_emod_of_nonneg (by omega)]; exact ⟨Int.emod_nonneg _ (by omega), Int.emod_lt_of_pos _ (by omega)⟩
  have wr : IntKind.i64.wrap r = r := IntWalk.i64_in _ (by omega)
  have wu : IntKind.i64.wrap u = u := IntWalk.i64_in _ (by omega)
  clear w0 wa wb wc wd
  go_enter Try.func7, Try.ntmps7
  go_upto_region 2 with fail
  rw [Hn.out]
  generalize (w.alloc (.cells #[.int .i64 x0, .int .i64 x1] 53)).alloc (.cells #[.int .i64 y0, .int .i64 y1] 53) = W0 at *
  have cx0 : W0.cell? ⟨w.heap.size, 0, none⟩ = some (.int .i64 x0) := X0.cell 0
  have cx1 : W0.cell? ⟨w.heap.size, 1, none⟩ = some (.int .i64 x1) := X0.cell 1
  have ax0 : (W0.alloc (.cells #[.int .i64 0, .int .i64 0] 53)).cell? ⟨w.heap.size, 0, none⟩ = some (.int .i64 x0) := (X0.later (below1 _ _)).cell 0
  have ax1 : (W0.alloc (.cells #[.int .i64 0, .int .i64 0] 53)).cell? ⟨w.heap.size, 1, none⟩ = some (.int .i64 x1) := (X0.later (below1 _ _)).cell 1
  go_cut [8] (fun s8 wx => s8 = .pointer (some ⟨W0.heap.size, 0, none⟩) ∧ (W0.alloc (.cells #[.int .i64 s, .int .i64 r] 53)).drew = wx)
  case first =>
    go_region
    all_goals
      go_wp2_with fail
      go_meet
      exact ⟨rfl, rfl⟩
  case rest =>
  obtain ⟨rfl, rfl⟩ := hcut
  have K8 : Blk (W0.alloc (.cells #[.int .i64 s, .int .i64 r] 53)).drew W0.heap.size 53 #[.int .i64 s, .int .i64 r] := (Blk.new W0 _ _).later (below_drawn _)
  have hb : Below W0.heap.size W0 (W0.alloc (.cells #[.int .i64 s, .int .i64 r] 53)).drew := Ge.trans (below1 _ _) (below_drawn _)
  replace BB := Ge.trans BB hb
  replace Y0 := Y0.later hb
  clear cx0 cx1 ax0 ax1 hb X0
  generalize (W0.alloc (.cells #[.int .i64 s, .int .i64 r] 53)).drew = W1 at *
  generalize W0.heap.size = b8 at *
  go_upto_region 3 with fail
  have cx0 : W1.cell? ⟨w.heap.size + 1, 0, none⟩ = some (.int .i64 y0) := Y0.cell 0
  have cx1 : W1.cell? ⟨w.heap.size + 1, 1, none⟩ = some (.int .i64 y1) := Y0.cell 1
  have ax0 : (W1.alloc (.cells #[.int .i64 0, .int .i64 0] 53)).cell? ⟨w.heap.size + 1, 0, none⟩ = some (.int .i64 y0) := (Y0.later (below1 _ _)).cell 0
  have ax1 : (W1.alloc (.cells #[.int .i64 0, .int .i64 0] 53)).cell? ⟨w.heap.size + 1, 1, none⟩ = some (.int .i64 y1) := (Y0.later (below1 _ _)).cell 1
  go_cut [9] (fun s8 wx => s8 = .pointer (some ⟨W1.heap.size, 0, none⟩) ∧ (W1.alloc (.cells #[.int .i64 t, .int .i64 u] 53)).drew = wx)
  case first =>
    go_region
    all_goals
      go_wp2_with fail
      go_meet
      exact ⟨rfl, rfl⟩
  case rest =>
  obtain ⟨rfl, rfl⟩ := hcut
  have K9 : Blk (W1.alloc (.cells #[.int .i64 t, .int .i64 u] 53)).drew W1.heap.size 53 #[.int .i64 t, .int .i64 u] := (Blk.new W1 _ _).later (below_drawn _)
  have hb : Below W1.heap.size W1 (W1.alloc (.cells #[.int .i64 t, .int .i64 u] 53)).drew := Ge.trans (below1 _ _) (below_drawn _)
  replace BB := Ge.trans BB hb
  replace K8 := K8.later hb
  clear cx0 cx1 ax0 ax1 hb Y0
  generalize (W1.alloc (.cells #[.int .i64 t, .int .i64 u] 53)).drew = W2 at *
  generalize W1.heap.size = b9 at *
  clear Es Ec Et Ed e1 nz Hr Hu wr wu h0 Hn
  obtain ⟨i, Ei⟩ : ∃ i, Hid (sectorT n s r = i) := ⟨_, Lib.hid rfl⟩
  obtain ⟨k, Ek⟩ : ∃ i, Hid (sectorT n t u = i) := ⟨_, Lib.hid rfl⟩
  have vi : i = 2 + s * N + r := by rw [← Ei.out, ← HN.out]; unfold sectorT; rw [if_pos (by have := HN.out; omega)]
  have vk : k = 2 + t * N + u := by rw [← Ek.out, ← HN.out]; unfold sectorT; rw [if_pos (by have := HN.out; omega)]
  have m1 : 0 ≤ s * N := Int.mul_nonneg bs.1 (by omega)
  have m2 : s * N ≤ 15 * N := Int.mul_le_mul_of_nonneg_right bs.2 (by omega)
  have m3 : 0 ≤ t * N := Int.mul_nonneg bt.1 (by omega)
  have m4 : t * N ≤ 15 * N := Int.mul_le_mul_of_nonneg_right bt.2 (by omega)
  have i2 : 2 ≤ i := by omega
  have i3 : i < 2 + 16 * (n + 1) := by have := HN.out; omega
  have k2 : 2 ≤ k := by omega
  have EQ := place_iff N s r t u (by omega) br bu
  rw [← vi, ← vk] at EQ
  have HQ := Lib.hid EQ
  clear vi vk m1 m2 m3 m4 EQ
  have I : Its w [(b8, 53, #[.int .i64 s, .int .i64 r]), (b9, 53, #[.int .i64 t, .int .i64 u])] [] W2 := ((Its.nil BB).cons K9).cons K8
  have hne : Nonempty (In (Its w [(b8, 53, #[.int .i64 s, .int .i64 r]), (b9, 53, #[.int .i64 t, .int .i64 u])] [])) := ⟨⟨_, I⟩⟩
  have f0 : ∀ j : In (Its w [(b8, 53, #[.int .i64 s, .int .i64 r]), (b9, 53, #[.int .i64 t, .int .i64 u])] []), j.W.cell? ⟨b8, 0, none⟩ = some (.int .i64 s) := fun j => (j.h.at_ 0 rfl).cell 0
  have f1 : ∀ j : In (Its w [(b8, 53, #[.int .i64 s, .int .i64 r]), (b9, 53, #[.int .i64 t, .int .i64 u])] []), j.W.cell? ⟨b8, 1, none⟩ = some (.int .i64 r) := fun j => (j.h.at_ 0 rfl).cell 1
  have f2 : ∀ j : In (Its w [(b8, 53, #[.int .i64 s, .int .i64 r]), (b9, 53, #[.int .i64 t, .int .i64 u])] []), j.W.cell? ⟨b9, 0, none⟩ = some (.int .i64 t) := fun j => (j.h.at_ 1 rfl).cell 0
  have f3 : ∀ j : In (Its w [(b8, 53, #[.int .i64 s, .int .i64 r]), (b9, 53, #[.int .i64 t, .int .i64 u])] []), j.W.cell? ⟨b9, 1, none⟩ = some (.int .i64 u) := fun j => (j.h.at_ 1 rfl).cell 1
  have Q1 : Hid (∀ W, Calls Try.prog 27 #[.int .i64 n, .agg #[.int .i64 s, .int .i64 r]] W fun e w' => e = .returned (.int .i64 i) ∧ Below W.heap.size W w') := Lib.hid (fun W => by rw [← Ei.out]; exact tsector_any n s r W)
  have Q2 : Hid (∀ W, Calls Try.prog 27 #[.int .i64 n, .agg #[.int .i64 t, .int .i64 u]] W fun e w' => e = .returned (.int .i64 k) ∧ Below W.heap.size W w') := Lib.hid (fun W => by rw [← Ek.out]; exact tsector_any n t u W)
  have II := Lib.hid I
  clear I K8 K9 BB
  go_upto_region 4 with fail
  refine region_class (Its w [(b8, 53, #[.int .i64 s, .int .i64 r]), (b9, 53, #[.int .i64 t, .int .i64 u])] []) (by kernel_rfl) (by kernel_rfl) II.out.drawn ?_
  repeat (go_big_quiet_step (first
    | (go_at_call 27; with_reducible exact class_call _ (fun hi => its_ge hi (Q1.out _)))
    | (go_at_call 27; with_reducible exact class_call _ (fun hi => its_ge hi (Q2.out _)))))
  refine wpQuiet_nil ?_
  rintro _ ⟨j, rfl⟩
  have c0 := f0 j
  have c1 := f1 j
  have c2 := f2 j
  have c3 := f3 j
  have BB := Lib.hid j.h.b
  have n1 : 1 ≤ n := bn.1
  have n2 : n ≤ 30 := bn.2
  clear f0 f1 f2 f3 hne II Q1 Q2
  by_cases h1 : s = t
  case neg =>
    have q1 : (s == t) = false := by simp [h1]
    have q2 : (i == k) = false := by
      rw [beq_eq_false_iff_ne]
      intro e
      exact h1 (HQ.out.1 e).1
    clear h1
    go_wp2_with (go_at_call 25; refine (fixed_any _).mono ?_; rintro e w3 ⟨rfl, hb⟩)
    go_ret
    exact ⟨rfl, Ge.trans BB.out hb⟩
  subst h1
  have q1 : (s == s) = true := by simp
  by_cases h2 : r = u
  case neg =>
    have q3 : (r == u) = false := by simp [h2]
    have q2 : (i == k) = false := by
      rw [beq_eq_false_iff_ne]
      intro e
      exact h2 (HQ.out.1 e).2
    clear h2
    go_wp2_with (go_at_call 25; refine (fixed_any _).mono ?_; rintro e w3 ⟨rfl, hb⟩)
    go_ret
    exact ⟨rfl, Ge.trans BB.out hb⟩
  subst h2
  have q3 : (r == r) = true := by simp
  obtain rfl : i = k := HQ.out.2 ⟨rfl, rfl⟩
  have q2 : (i == i) = true := by simp
  go_wp2_with (go_at_call 25; refine (fixed_any _).mono ?_; rintro e w3 ⟨rfl, hb⟩)
  go_ret
  exact ⟨rfl, Ge.trans BB.out hb⟩

theorem cellsT1 : Try.prog.cellsOf 53 = 2 := by kernel_rfl

theorem reads1 {H : Type} {enc : TypeId × Value → H} {W' : World} {b : Nat} {sp : Nat → Bool} {hd : Bool} {a1_0 : Int} {a1_1 : Int} (w1_0 : (Lit.int .i64 a1_0).wf = true) (w1_1 : (Lit.int .i64 a1_1).wf = true) :
    DataW.Trod enc Try.prog W' b sp hd 53 (.agg #[.int .i64 a1_0, .int .i64 a1_1]) (.agg [.lit (.int .i64 a1_0), .lit (.int .i64 a1_1)]) [] := by
  simpa using shut_agg2 (enc := enc) (w := W') (base := b) (spare := sp) (held := hd) (y0 := (.lit (.int .i64 a1_0), [])) (y1 := (.lit (.int .i64 a1_1), [])) Try.underlying53 (by kernel_rfl) cellsT1 ⟨1, by simp [DataW.trod, Try.underlying3, w1_0]⟩ ⟨1, by simp [DataW.trod, Try.underlying3, w1_1]⟩

theorem cellsT2 : Try.prog.cellsOf 53 = 2 := by kernel_rfl

theorem reads2 {H : Type} {enc : TypeId × Value → H} {W' : World} {b : Nat} {sp : Nat → Bool} {hd : Bool} {a2_0 : Int} {a2_1 : Int} (w2_0 : (Lit.int .i64 a2_0).wf = true) (w2_1 : (Lit.int .i64 a2_1).wf = true) :
    DataW.Trod enc Try.prog W' b sp hd 53 (.agg #[.int .i64 a2_0, .int .i64 a2_1]) (.agg [.lit (.int .i64 a2_0), .lit (.int .i64 a2_1)]) [] := by
  simpa using shut_agg2 (enc := enc) (w := W') (base := b) (spare := sp) (held := hd) (y0 := (.lit (.int .i64 a2_0), [])) (y1 := (.lit (.int .i64 a2_1), [])) Try.underlying53 (by kernel_rfl) cellsT2 ⟨1, by simp [DataW.trod, Try.underlying3, w2_0]⟩ ⟨1, by simp [DataW.trod, Try.underlying3, w2_1]⟩

set_option maxRecDepth 100000 in
theorem lifted (os : Os) (started : os.Started) (H : Type) (enc : TypeId × Value → H) :
    ReturnsInHanded {} Try.checked os 7 .any (Rows.tableSectorsSpec.pre6 enc Try.prog Try.f7 Rows.tableSectorsRow.domain false) (Rows.tableSectorsSpec.post enc Try.prog Try.f7 false true false false) := by
  refine returnsInHanded_of_change (C := Try.checked) own started (by kernel_rfl) Try.func7
    (ChangeSpec.witness6 (enc := enc) (C := Try.checked) false ⟨#[], #[.int .u8 0, .agg #[.int .i64 0, .int .i64 0], .agg #[.int .i64 0, .int .i64 0]], []⟩ 8 (by kernel_rfl) (by kernel_rfl) (by kernel_rfl) (by kernel_rfl)) ?_
  intro W base args ds gs before hval0 hW hcnd _
  have hval : ∀ (j : Nat) t v, Try.f7.params[j]? = some t → args[j]? = some v → Value.okWide Try.prog W .any base t v := hval0
  have hW' := hW
  obtain ⟨p, q, hA0, hV, rfl, hfz, hnd⟩ := hW
  have hA : DataW.TrodAll enc Try.prog W 0 (fun _ => true) true Try.f7.params.toList args.toList ds p := hA0
  rw [Try.params7] at hA hval
  obtain ⟨v0, vs0, d0, ds0, p0, q0, hargs, rfl, rfl, h0, r0⟩ := trodAll_cons hA
  obtain ⟨v1, vs1, d1, ds1, p1, q1, rfl, rfl, rfl, h1, r1⟩ := trodAll_cons r0
  obtain ⟨v2, vs2, d2, ds2, p2, q2, rfl, rfl, rfl, h2, r2⟩ := trodAll_cons r1
  obtain ⟨rfl, rfl, rfl⟩ := trodAll_nil r2
  obtain rfl : args = #[v0, v1, v2] := by cases args; simp_all
  obtain ⟨rfl, rfl⟩ := trodVars_none hV
  obtain ⟨a0, rfl, rfl, rfl, w0⟩ := open_int Try.underlying5 (hval 0 5 v0 rfl rfl) h0
  obtain ⟨c1_0, c1_1, y1_0, y1_1, m1, rfl, rfl, rfl, hy1_0, hy1_1⟩ := open_agg2 Try.underlying53 (by kernel_rfl) cellsT1 (hval 1 53 v1 rfl rfl) h1
  obtain ⟨a1_0, e1_0, rfl, w1_0⟩ := DataW.trod_int Try.underlying3 hy1_0
  obtain ⟨a1_1, e1_1, rfl, w1_1⟩ := DataW.trod_int Try.underlying3 hy1_1
  simp at e1_0 e1_1
  subst e1_0 e1_1
  obtain ⟨c2_0, c2_1, y2_0, y2_1, m2, rfl, rfl, rfl, hy2_0, hy2_1⟩ := open_agg2 Try.underlying53 (by kernel_rfl) cellsT2 (hval 2 53 v2 rfl rfl) h2
  obtain ⟨a2_0, e2_0, rfl, w2_0⟩ := DataW.trod_int Try.underlying3 hy2_0
  obtain ⟨a2_1, e2_1, rfl, w2_1⟩ := DataW.trod_int Try.underlying3 hy2_1
  simp at e2_0 e2_1
  subst e2_0 e2_1
  clear hA0 hval0
  simp only [List.append_nil] at hW'
  refine (walk a0 a1_0 a1_1 a2_0 a2_1 w0 w1_0 w1_1 w2_0 w2_1 W).mono fun e W' ⟨he, hg⟩ => ?_
  subst he
  exact ⟨_, rfl, post_plain hW' (fun _ _ _ => (trodAll_cons_mk (shut_bool Try.underlying4 _) trodAll_mk0)) (fun sp => (trodAll_cons_mk (shut_int Try.underlying5 w0) (trodAll_cons_mk (reads1 w1_0 w1_1) (trodAll_cons_mk (reads2 w2_0 w2_1) trodAll_mk0)))) (fun _ => rfl) hg (ok_one (by kernel_rfl) rfl (okWide_bool_mk Try.underlying4 _))⟩

theorem over : Rows.tableSectorsRow.holds Try.pinned (OpenSpec.ofChange Rows.tableSectorsSpec) :=
  OpenClaim.holds_of_wide 7 Try.f7 rfl rfl rfl rfl rfl rfl rfl ⟨rfl, rfl, rfl, rfl, rfl⟩ rfl rfl rfl rfl rfl (by kernel_rfl) Try.func7 (by kernel_rfl)
    (of_decide_eq_true (by kernel_rfl)) (by unfold Func.isWrapper; first | (rw [if_pos (by decide +kernel)]; kernel_rfl) | (rw [if_neg (by decide +kernel)]; exact ⟨rfl, rfl⟩))
    (fun os started H enc _ => lifted os started H enc)

theorem proved : Rows.TableSectorsSaid := over
#print axioms proved
end Go.Proofs.Ytpgbbbgblgkokaa.tableSectors
