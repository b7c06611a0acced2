/- For all inputs the statement VictimScale about victim returns true, and changes nothing. Conditions: none. -/
import Derived.Test.YtgepkomomjmmhaaViK
import Derived.Test.YtgepkomomjmmhaaViF
import Derived.Test.YtgepkomomjmmhaaClass
import Derived.Test.YtgepkomomjmmhaaViH
import Derived.ProofKit
import Derived.OpenShut
import Derived.ShutString
import Derived.SizedLaws
namespace Go.Proofs.Ytgepkomomjmmhaa.victimScale
open Go.ChangeShapes Go.WideShapes Go.ChangeAt Go.RowKit Go.Lib Go.MapKept
open Go.ChangeMaps (open_string shut_string)
set_option linter.unusedVariables false
set_option linter.unusedSimpArgs false

theorem own : ownKnob Try.prog.godebug = none := by kernel_rfl
theorem laid : laidOutB Try.prog = true := by kernel_rfl

set_option maxRecDepth 100000
open Vi Sp
set_option maxHeartbeats 32000000 in
theorem walk (P : Prg) (A : Option Addr) (n c : Nat) (L : List Cd) (room times : Int) (w : World) (hL : CR w A n L) (hn : n ≤ maxLen) (hp : n ≤ c) (ho : ∀ x ∈ L, CIn x) (h1 : I64 room) (h2 : 0 ≤ times ∧ times ≤ 65535) :
    Calls Try.prog 8 #[.slice A n c, .int .i64 room, .int .u16 times] w fun e w' => e = .returned (.bool true) ∧ Below w.heap.size w w' := by
  obtain ⟨m, M, hM⟩ := cut16 hL hp ho
  have HM := Lib.hid hM
  have hmin := hM.e.symm
  have hmc : (m : Int) ≤ (c : Int) := by have := hM.cap; omega
  have hm0 : (0 : Int) ≤ (m : Int) := by omega
  have HLEN := Lib.hid hM.r.len
  have HFX := Lib.hid (fun X => fixed_any P X)
  have HP := Lib.hid P
  have HR := Lib.hid h1
  have HT := Lib.hid h2
  have h0 : Hid (Sp.Sep w w []) := Lib.hid (Sp.Sep.nil (Below.refl _ _))
  have HS0 : Hid (Sp.Sep w (w.alloc (.cells #[] 25)) [rowS 25 5 (.slice (some ⟨w.heap.size, 0, none⟩) 0 0) 0 []]) := Lib.hid (rows_lit h0.out 25 5)
  have hm1000 : 0 + m < 1000 := by have := hM.le; omega
  have HCM := Lib.hid (hM.r.later (below1 w (.cells #[] 25)))
  clear P hL hn hp ho hM h1 h2 h0
  go_enter Try.func8, Try.ntmps8
  go_upto_region 2 with (with_reducible refine wp_append_r rfl (.tmp 10) (.tmp 15) rfl rfl A m c rfl HS0.out 0 rfl HCM.out hm1000 ?_; intro g1 p1 w1 hs1)
  have H1 : Hid (Sp.Sep w w1 [rowS 25 5 (.slice (some ⟨g1, 0, none⟩) m p1) m ((cutsN M 0).flatMap cdC)]) := Lib.hid (by simpa [cutsN] using hs1)
  clear hs1 HS0 HCM hmin hm1000
  go_upto_region 4 with fail
  have hs2 := rows_lit H1.out 25 5
  generalize w1.alloc (.cells #[] 25) = w2 at *
  obtain ⟨g0, hg0⟩ : ∃ g0, w1.heap.size = g0 := ⟨_, rfl⟩
  rw [hg0] at hs2 ⊢
  have H2 : Hid (Sp.Sep w w2 [rowS 25 5 (.slice (some ⟨g1, 0, none⟩) m p1) m ((cutsN M 0).flatMap cdC), rowS 25 5 (.slice (some ⟨g0, 0, none⟩) 0 0) 0 (((M.take 0).map (scaA (1 + times % 1000))).flatMap cdC)]) := Lib.hid hs2
  clear hs2 H1 hg0
  go_loopg [7, 8] m (fun gk s7 s8 wr => ∃ (k : Nat) (u7 : Value), k ≤ m ∧ gk = m - k ∧ s7 = u7 ∧ s8 = .int .i64 (k : Nat) ∧ Hid (Sp.Sep w wr [rowS 25 5 (.slice (some ⟨g1, 0, none⟩) m p1) m ((cutsN M k).flatMap cdC), rowS 25 5 u7 k (((M.take k).map (scaA (1 + times % 1000))).flatMap cdC)]))
  case atStart => exact ⟨0, _, by omega, rfl, rfl, rfl, H2⟩
  case round =>
    obtain ⟨k, u7, hk, hgk, rfl, rfl, HS⟩ := hrel
    have HGK := Lib.hid hgk
    clear hgk H2
    by_cases hkm : k < m
    · have hl : (k : Int) < (m : Int) := by omega
      have wk : IntKind.i64.wrap ((k : Int) + 1) = (k : Int) + 1 := IntWalk.i64_in _ (by have := HM.out.le; omega)
      obtain ⟨x, hx⟩ : ∃ x, M[k]? = some x := ⟨_, List.getElem?_eq_getElem (by have := HLEN.out; omega)⟩
      have HX := Lib.hid hx
      have HXI := Lib.hid (HM.out.ok x (List.mem_of_getElem? hx))
      have hcr := CR.of_row HS.out (k := 0) rfl (by rw [cuts_len]; exact HLEN.out)
      obtain ⟨g', o', e', hc⟩ := hcr.rc (by omega)
      have hrc := rows_cell HS.out (k := 0) rfl (by omega)
      obtain ⟨g3, e3, hcell⟩ := hrc
      injection e3 with e3
      injection e3 with e3
      subst e3
      have C := hc k x (cuts_at hx)
      injection e' with e'
      injection e' with e1' e2' _
      subst e1' e2'
      rw [Nat.zero_add] at C
      have c4 := C.c4
      obtain ⟨cur, hcur⟩ := rows_blk HS.out (k := 0) rfl
      have f4 := hcur.frozen (k * 5 + 4)
      have hs3 := rows_put HS.out (k := 0) rfl (k * 5 + 4) (.int .u64 (x.a % 1048576))
      rw [flat_set _ k x _ (cuts_at hx), show (⟨x.s, x.l, x.v, x.n, x.a % 1048576⟩ : Cd) = modA x from rfl, cuts_set hx] at hs3
      have H3 := Lib.hid hs3
      have hmod : x.a.tmod 1048576 = x.a % 1048576 := Int.tmod_eq_emod_of_nonneg (by have := HXI.out.a.1; omega)
      clear hs3 hcur hcell hcr hc hx C
      go_upto_region 7 with fail
      generalize wr.setCell ⟨g1, k * 5 + 4, none⟩ (.int .u64 (x.a % 1048576)) = w3 at *
      have hcr := CR.of_row H3.out (k := 0) rfl (by rw [cuts_len]; exact HLEN.out)
      obtain ⟨g', o', e', hc⟩ := hcr.rc (by omega)
      injection e' with e'
      injection e' with e1' e2' _
      subst e1' e2'
      have C := hc k (modA x) (by rw [← cuts_set HX.out, List.getElem?_set_self (by have := (List.getElem?_eq_some_iff.1 HX.out).1; rw [cuts_len]; exact this)])
      rw [Nat.zero_add] at C
      have d0 : w3.cell? ⟨g1, k * 5, none⟩ = some (.int .i64 x.s) := C.c0
      have d1 : w3.cell? ⟨g1, k * 5 + 1, none⟩ = some (.int .i64 x.l) := C.c1
      have d2 : w3.cell? ⟨g1, k * 5 + 2, none⟩ = some (.int .i64 x.v) := C.c2
      have d3 : w3.cell? ⟨g1, k * 5 + 3, none⟩ = some (.int .i64 x.n) := C.c3
      have d4 : w3.cell? ⟨g1, k * 5 + 4, none⟩ = some (.int .u64 (x.a % 1048576)) := C.c4
      have htu : IntKind.u64.wrap times = times := IntWalk.u64_in _ (by have := HT.out; omega)
      have htm : times.tmod 1000 = times % 1000 := Int.tmod_eq_emod_of_nonneg HT.out.1
      have ht0 : 0 ≤ times % 1000 ∧ times % 1000 < 1000 := by omega
      have htw : IntKind.u64.wrap (1 + times % 1000) = 1 + times % 1000 := IntWalk.u64_in _ (by omega)
      have hlt := scaA_lt HXI.out (t := 1 + times % 1000) (by omega) (by omega)
      have htx : IntKind.u64.wrap (x.a % 1048576 * (1 + times % 1000)) = x.a % 1048576 * (1 + times % 1000) := IntWalk.u64_in _ (by omega)
      clear c4 f4 hc hcr C hlt ht0
      go_upto_region 9 with fail
      have H4 : Hid (Sp.Sep w (w3.alloc (.cells #[.int .i64 x.s, .int .i64 x.l, .int .i64 x.v, .int .i64 x.n, .int .u64 (x.a % 1048576 * (1 + times % 1000))] 25)) [rowS 25 5 (.slice (some ⟨g1, 0, none⟩) m p1) m ((cutsN M (k + 1)).flatMap cdC), rowS 25 5 u7 k (((M.take k).map (scaA (1 + times % 1000))).flatMap cdC)]) := Lib.hid (H3.out.alloc _)
      have BN : Hid (Sp.Blk (w3.alloc (.cells #[.int .i64 x.s, .int .i64 x.l, .int .i64 x.v, .int .i64 x.n, .int .u64 (x.a % 1048576 * (1 + times % 1000))] 25)) w3.heap.size 25 #[.int .i64 x.s, .int .i64 x.l, .int .i64 x.v, .int .i64 x.n, .int .u64 (x.a % 1048576 * (1 + times % 1000))]) := Lib.hid (Sp.Blk.new w3 _ _)
      clear d0 d1 d2 d3 d4 htw htx htm htu
      generalize w3.alloc (.cells #[.int .i64 x.s, .int .i64 x.l, .int .i64 x.v, .int .i64 x.n, .int .u64 (x.a % 1048576 * (1 + times % 1000))] 25) = w4 at *
      generalize w3.heap.size = n3 at *
      have b0 := BN.out.cell 0
      have b1 := BN.out.cell 1
      have b2 := BN.out.cell 2
      have b3 := BN.out.cell 3
      have b4 := BN.out.cell 4
      simp at b0 b1 b2 b3 b4
      have HK9 : Hid (k < 900) := Lib.hid (by have := HM.out.le; omega)
      obtain ⟨v7, w7, hap, S7⟩ := rows_pushS (k := 1) (cs := cdC (scaA (1 + times % 1000) x)) H4.out rfl Try.underlying22 cand_infos rfl (by decide) (by decide) (by have := HK9.out; omega) rfl (cd_one _)
      have H8 : Hid (Sp.Sep w w7 [rowS 25 5 (.slice (some ⟨g1, 0, none⟩) m p1) m ((cutsN M (k + 1)).flatMap cdC), rowS 25 5 v7 (k + 1) (((M.take (k + 1)).map (scaA (1 + times % 1000))).flatMap cdC)]) := Lib.hid (by
        rw [sca_succ HX.out, List.flatMap_append, List.flatMap_cons, List.flatMap_nil, List.append_nil]
        exact S7)
      replace hap : (Builtin.append_ #[22, 22] 22 #[u7, .slice (some ⟨w4.heap.size, 0, none⟩) 1 1]).run Try.prog (w4.alloc (.cells #[.int .i64 x.s, .int .i64 x.l, .int .i64 x.v, .int .i64 x.n, .int .u64 (x.a % 1048576 * (1 + times % 1000))] 25)) = .ok v7 w7 := hap
      clear S7
      go_wp2_with (with_reducible refine wpList_append_run (w4.alloc (.cells #[.int .i64 x.s, .int .i64 x.l, .int .i64 x.v, .int .i64 x.n, .int .u64 (x.a % 1048576 * (1 + times % 1000))] 25)) rfl (.tmp 46) (.tmp 48) 22 22 rfl u7 (.slice (some ⟨w4.heap.size, 0, none⟩) 1 1) rfl rfl v7 w7 hap ?_)
      go_roundg (m - (k + 1))
      case measure => have := HGK.out; omega
      case rel => exact ⟨k + 1, v7, by omega, by have := HGK.out; omega, rfl, by go_num, H8⟩
    · obtain rfl : k = m := by omega
      have hl : ¬ (k : Int) < (k : Int) := by omega
      obtain ⟨A7, p7, rfl⟩ := rows_slice HS.out (k := 1) rfl
      have HA : Hid (CR wr (some ⟨g1, 0, none⟩) k (M.map modA)) := Lib.hid (by
        have h1 := CR.of_row HS.out (k := 0) rfl (by rw [cuts_len]; exact HLEN.out)
        rw [cuts_all M (by have := HLEN.out; omega)] at h1
        exact h1)
      have HB : Hid (CR wr A7 k (M.map (scaA (1 + times % 1000)))) := Lib.hid (by
        have h1 := CR.of_row HS.out (k := 1) rfl (by rw [List.length_map, List.length_take]; have := HLEN.out; omega)
        rw [List.take_of_length_le (by have := HLEN.out; omega)] at h1
        exact h1)
      have hra := rows_room HS.out (k := 0) rfl
      have hrb := rows_room HS.out (k := 1) rfl
      have ht1 : 1 ≤ 1 + times % 1000 := by omega
      have ht2 : 1 + times % 1000 ≤ 1000 := by omega
      have hia : ∀ y ∈ M.map modA, CIn y := fun y hy => by
        obtain ⟨z, hz, rfl⟩ := List.mem_map.1 hy
        exact modA_in (HM.out.ok z hz)
      have hib : ∀ y ∈ M.map (scaA (1 + times % 1000)), CIn y := fun y hy => by
        obtain ⟨z, hz, rfl⟩ := List.mem_map.1 hy
        exact scaA_in (HM.out.ok z hz) ht1 ht2
      have hk20 : k ≤ 20 := by have := HM.out.le; omega
      have K1 : Hid (∀ X, Below wr.heap.size wr X → Calls Try.prog 13 #[.slice (some ⟨g1, 0, none⟩) k p1, .int .i64 room] X fun e w' => e = .returned (.int .i64 (pick (M.map modA) room)) ∧ Below X.heap.size X w') := Lib.hid (fun X hX => HP.out.pk _ k p1 _ room X (HA.out.later hX) hk20 hra hia HR.out)
      have K2 : Hid (∀ X, Below wr.heap.size wr X → Calls Try.prog 13 #[.slice A7 k p7, .int .i64 room] X fun e w' => e = .returned (.int .i64 (pick (M.map modA) room)) ∧ Below X.heap.size X w') := Lib.hid (fun X hX => by rw [sca_pick HM.out.ok ht1 ht2]; exact HP.out.pk _ k p7 _ room X (HB.out.later hX) hk20 hrb hib HR.out)
      have O1 : Hid (∀ X, Below wr.heap.size wr X → Calls Try.prog 17 #[.slice (some ⟨g1, 0, none⟩) k p1] X fun e w' => ∃ A' p', e = .returned (.slice A' k p') ∧ VR w' A' k (iv (order (M.map modA))) ∧ Below X.heap.size X w') := Lib.hid (fun X hX => HP.out.od _ k p1 _ X (HA.out.later hX) (by have := HM.out.le; omega) hra hia)
      have O2 : Hid (∀ X, Below wr.heap.size wr X → Calls Try.prog 17 #[.slice A7 k p7] X fun e w' => ∃ A' p', e = .returned (.slice A' k p') ∧ VR w' A' k (iv (order (M.map modA))) ∧ Below X.heap.size X w') := Lib.hid (fun X hX => by rw [sca_order HM.out.ok ht1 ht2]; exact HP.out.od _ k p7 _ X (HB.out.later hX) (by have := HM.out.le; omega) hrb hib)
      have HI : Hid (∀ (A1 : Option Addr) (p1 : Nat) (A2 : Option Addr) (p2 : Nat) X, VR X A1 k (iv (order (M.map modA))) → VR X A2 k (iv (order (M.map modA))) → Calls Try.prog 16 #[.slice A1 k p1, .slice A2 k p2] X fun e w' => e = .returned (.bool true) ∧ Below X.heap.size X w') := Lib.hid (fun A1 p1 A2 p2 X h1 h2 => by
        have := rints_any A1 k p1 A2 k p2 _ _ X h1 h2 (by omega)
        rw [decide_eq_true rfl] at this
        exact this)
      clear hra hrb hia hib ht1 ht2 hk20
      generalize pick (M.map modA) room = R at *
      generalize order (M.map modA) = OO at *
      go_wp2_with (first
        | (go_at_call 13; with_reducible refine (K1.out _ (Below.refl _ _)).mono ?_; rintro e5 w5 ⟨rfl, hb5⟩; have H5 := Lib.hid hb5; clear hb5 K1)
        | (go_at_call 13; with_reducible refine (K2.out _ H5.out).mono ?_; rintro e6 w6 ⟨rfl, hb6⟩; have H6 := Lib.hid (H5.out.trans (hb6.mono H5.out.size)); clear hb6)
        | (go_at_call 17; with_reducible refine (O1.out _ H6.out).mono ?_; rintro e7 w7 ⟨Aq, pq, rfl, hv7, hb7⟩; have H7 := Lib.hid (H6.out.trans (hb7.mono H6.out.size)); have V7 := Lib.hid hv7; clear hb7 hv7 O1)
        | (go_at_call 17; with_reducible refine (O2.out _ H7.out).mono ?_; rintro e8 w8 ⟨Ar, pr, rfl, hv8, hb8⟩; have H8 := Lib.hid (H7.out.trans (hb8.mono H7.out.size)); have W8 := Lib.hid (V7.out.later hb8); have V8 := Lib.hid hv8; clear hb8 hv8)
        | (go_at_call 16; refine (HI.out _ _ _ _ _ W8.out V8.out).mono ?_; rintro e9 w9 ⟨rfl, hb9⟩; have H9 := Lib.hid (H8.out.trans (hb9.mono H8.out.size)); clear hb9)
        | (go_at_call 19; refine (HFX.out _).mono ?_; rintro e10 w10 ⟨rfl, hb10⟩; have H10 := Lib.hid (H9.out.trans (hb10.mono H9.out.size)); clear hb10))
      go_ret
      exact ⟨rfl, HS.out.below.trans (H10.out.mono HS.out.below.size)⟩

set_option maxRecDepth 100000 in
theorem lifted (P : Prg) (os : Os) (started : os.Started) (H : Type) (enc : TypeId × Value → H) :
    ReturnsInHanded {} Try.checked os 8 .any (Rows.victimScaleSpec.pre6 enc Try.prog Try.f8 Rows.victimScaleRow.domain false) (Rows.victimScaleSpec.post enc Try.prog Try.f8 false true false false) := by
  refine returnsInHanded_of_change (C := Try.checked) own started (by kernel_rfl) Try.func8
    (ChangeSpec.witness6 (enc := enc) (C := Try.checked) false ⟨#[], #[.slice none 0 0, .int .i64 0, .int .u16 0], []⟩ 8 (by kernel_rfl) (by kernel_rfl) (by kernel_rfl) (by kernel_rfl)) ?_
  intro W base args ds gs before hval0 hW hcnd _
  have hval : ∀ (j : Nat) t v, Try.f8.params[j]? = some t → args[j]? = some v → Value.okWide Try.prog W .any base t v := hval0
  have hW' := hW
  obtain ⟨p, q, hA0, hV, rfl, hfz, hnd⟩ := hW
  have hA : DataW.TrodAll enc Try.prog W 0 (fun _ => true) true Try.f8.params.toList args.toList ds p := hA0
  rw [Try.params8] at hA hval
  obtain ⟨v0, vs0, d0, ds0, p0, q0, hargs, rfl, rfl, h0, r0⟩ := trodAll_cons hA
  obtain ⟨v1, vs1, d1, ds1, p1, q1, rfl, rfl, rfl, h1, r1⟩ := trodAll_cons r0
  obtain ⟨v2, vs2, d2, ds2, p2, q2, rfl, rfl, rfl, h2, r2⟩ := trodAll_cons r1
  obtain ⟨rfl, rfl, rfl⟩ := trodAll_nil r2
  obtain rfl : args = #[v0, v1, v2] := by cases args; simp_all
  obtain ⟨rfl, rfl⟩ := trodVars_none hV
  obtain ⟨A0, n0, c0, L0, rfl, hn0, hp0, hL0, ho0⟩ := open_cands (hval 0 22 v0 rfl rfl) h0
  obtain ⟨a1, rfl, rfl, rfl, w1⟩ := open_int Try.underlying3 (hval 1 3 v1 rfl rfl) h1
  obtain ⟨a2, rfl, rfl, rfl, w2⟩ := open_int Try.underlying44 (hval 2 44 v2 rfl rfl) h2
  clear hA0 hval0
  try simp only [List.append_nil] at hW'
  try simp only [List.nil_append] at hW'
  have hlt := fun x hx => hW'.lt x hx
  refine (walk P A0 n0 c0 L0 a1 a2 W hL0 hn0 hp0 ho0 (i64_of w1) (by simp [Lit.wf] at w2; exact w2)).mono fun e W' ⟨he, hg⟩ => ?_
  subst he
  refine ⟨_, rfl, post_mem hW' (fun _ _ _ => (trodAll_cons_mk (shut_bool Try.underlying4 _) trodAll_mk0)) (fun sp hsp => ?_) (fun _ => rfl) hg (ok_one (by kernel_rfl) rfl (okWide_bool_mk Try.underlying4 _))⟩
  have hall := (trodAll_cons_mk (arg_same (sp := sp) laid (by kernel_rfl) (of_decide_eq_true (by kernel_rfl)) h0 hg (by intro x hx; simp_all) hlt hsp) (trodAll_cons_mk (arg_same (sp := sp) laid (by kernel_rfl) (of_decide_eq_true (by kernel_rfl)) h1 hg (by intro x hx; simp_all) hlt hsp) (trodAll_cons_mk (arg_same (sp := sp) laid (by kernel_rfl) (of_decide_eq_true (by kernel_rfl)) h2 hg (by intro x hx; simp_all) hlt hsp) trodAll_mk0)))
  try simp only [List.append_nil] at hall
  try simp only [List.nil_append] at hall
  exact hall

theorem over (P : Prg) : Rows.victimScaleRow.holds Try.pinned (OpenSpec.ofChange Rows.victimScaleSpec) :=
  OpenClaim.holds_of_wide 8 Try.f8 rfl rfl rfl rfl rfl rfl rfl ⟨rfl, rfl, rfl, rfl, rfl⟩ rfl rfl rfl rfl rfl (by kernel_rfl) Try.func8 (by kernel_rfl)
    (of_decide_eq_true (by kernel_rfl)) (by unfold Func.isWrapper; first | (rw [if_pos (by decide +kernel)]; kernel_rfl) | (rw [if_neg (by decide +kernel)]; exact ⟨rfl, rfl⟩))
    (fun os started H enc _ => lifted P os started H enc)

end Go.Proofs.Ytgepkomomjmmhaa.victimScale
