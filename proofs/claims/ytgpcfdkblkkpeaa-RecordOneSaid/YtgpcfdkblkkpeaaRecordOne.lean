/- For every record, every place and every byte the statement RecordOne about record.Decode returns true, and changes nothing. Conditions: none. -/
import Derived.Test.YtgpcfdkblkkpeaaRecS
import Derived.Test.YtgpcfdkblkkpeaaRecO
import Derived.Deep.DeepCutAuto
import Derived.Deep.LoopGhost
import Derived.StillTailTactics
import Derived.WalkSmall
import Derived.ProofKit
import Derived.OpenShut
import Derived.ShutString
import Derived.SizedLaws
namespace Go.Proofs.Ytgpcfdkblkkpeaa.recordOne
open Go.ChangeShapes Go.WideShapes Go.ChangeAt Go.RowKit Go.Lib Wd Cr Ck
open Go.ChangeMaps (open_string shut_string)
set_option linter.unusedVariables false

theorem own : ownKnob Try.prog.godebug = none := by kernel_rfl
theorem laid : laidOutB Try.prog = true := by kernel_rfl

set_option maxRecDepth 100000 in
set_option maxHeartbeats 8000000 in
theorem no0 (l0 e0 k0 v0 d0 : Int) (i0 a0 : ByteArray) (p x : Int) (w : World) (hl0 : 0 ≤ l0 ∧ l0 < 18446744073709551616) (he0 : 0 ≤ e0 ∧ e0 < 4294967296) (hk0 : -9223372036854775808 ≤ k0 ∧ k0 ≤ 9223372036854775807) (hv0 : 0 ≤ v0 ∧ v0 < 18446744073709551616) (hd0 : 0 ≤ d0 ∧ d0 < 18446744073709551616) (hi0 : i0.size ≤ maxLen) (ha0 : a0.size ≤ maxLen) (h : okR ⟨l0, e0, k0, v0, d0, (cut80 i0).data.toList, (cut80 a0).data.toList⟩ = false) :
    Calls Try.prog 6 #[.agg #[.int .u64 l0, .int .u32 e0, .int .i64 k0, .int .u64 v0, .int .u64 d0, .string i0, .string a0], .int .u8 p, .int .u8 x] w fun e' w' => e' = .returned (.bool true) ∧ Below w.heap.size w w' := by
  have E0 := Lib.hid (fun w => encode_no l0 e0 k0 v0 d0 (cut80 i0) (cut80 a0) w (cut80_le i0) (cut80_le a0) h)
  clear h
  have C0 := Lib.hid (fun w => lawcut_any l0 e0 k0 v0 d0 i0 a0 w hi0 ha0)
  have zi0 := cut80_size i0
  have za0 := cut80_size a0
  generalize cut80 i0 = x0 at *
  generalize cut80 a0 = y0 at *
  have G0 := layF l0 e0 k0 v0 d0 i0 a0 25 w
  have B := below1 w (.cells #[.int .u64 l0, .int .u32 e0, .int .i64 k0, .int .u64 v0, .int .u64 d0, .string i0, .string a0] 25)
  clear hi0 ha0
  go_enter Try.func6, Try.ntmps6
  go_wp2_with fail
  refine (C0.out _).mono ?_
  rintro e' w1 ⟨rfl, hb⟩
  replace G0 := G0.later hb
  replace B := Wd.Ge.trans B hb
  clear hb
  obtain ⟨cg, c0, c1, c2, c3, c4, c5, c6⟩ := G0.L
  have z0 := G0.F 0 (by omega)
  have z1 := G0.F 1 (by omega)
  have z2 := G0.F 2 (by omega)
  have z3 := G0.F 3 (by omega)
  have z4 := G0.F 4 (by omega)
  have z5 := G0.F 5 (by omega)
  have z6 := G0.F 6 (by omega)
  go_upto_region 2 with fail
  clear c0 c1 c2 c3 c4 c5 c6 cg
  clear z0 z1 z2 z3 z4 z5 z6
  replace G0 := G0.put (l := l0) (e := e0) (k := k0) (v := v0) (d := d0) (i := x0) (a := y0)
  replace B := below7 l0 e0 k0 v0 d0 x0 y0 B (Nat.le_refl w.heap.size)
  generalize (((((((w1.setCell ⟨w.heap.size, 0, none⟩ (.int .u64 l0)).setCell ⟨w.heap.size, 1, none⟩ (.int .u32 e0)).setCell ⟨w.heap.size, 2, none⟩ (.int .i64 k0)).setCell ⟨w.heap.size, 3, none⟩ (.int .u64 v0)).setCell ⟨w.heap.size, 4, none⟩ (.int .u64 d0)).setCell ⟨w.heap.size, 5, none⟩ (.string x0)).setCell ⟨w.heap.size, 6, none⟩ (.string y0)) = w2 at *
  clear C0
  obtain ⟨cg, c0, c1, c2, c3, c4, c5, c6⟩ := G0.L
  go_wp2_with fail
  refine (E0.out _).mono ?_
  rintro e' w3 ⟨rfl, hb⟩
  clear c0 c1 c2 c3 c4 c5 c6 cg
  replace G0 := G0.later hb
  replace B := Wd.Ge.trans B hb
  clear hb
  go_wp2_with fail
  refine (fixed_any _).mono ?_
  rintro e' w7 ⟨rfl, hb⟩
  go_wp2_with fail
  go_ret
  exact ⟨rfl, Wd.Ge.trans B hb⟩

set_option maxRecDepth 100000 in
set_option maxHeartbeats 8000000 in
theorem zero0 (l0 e0 k0 v0 d0 : Int) (i0 a0 : ByteArray) (p : Int) (w : World) (hl0 : 0 ≤ l0 ∧ l0 < 18446744073709551616) (he0 : 0 ≤ e0 ∧ e0 < 4294967296) (hk0 : -9223372036854775808 ≤ k0 ∧ k0 ≤ 9223372036854775807) (hv0 : 0 ≤ v0 ∧ v0 < 18446744073709551616) (hd0 : 0 ≤ d0 ∧ d0 < 18446744073709551616) (hi0 : i0.size ≤ maxLen) (ha0 : a0.size ≤ maxLen) (h : okR ⟨l0, e0, k0, v0, d0, (cut80 i0).data.toList, (cut80 a0).data.toList⟩ = true) :
    Calls Try.prog 6 #[.agg #[.int .u64 l0, .int .u32 e0, .int .i64 k0, .int .u64 v0, .int .u64 d0, .string i0, .string a0], .int .u8 p, .int .u8 0] w fun e' w' => e' = .returned (.bool true) ∧ Below w.heap.size w w' := by
  obtain ⟨S, HS⟩ : ∃ S : ByteArray, secL ⟨l0, e0, k0, v0, d0, (cut80 i0).data.toList, (cut80 a0).data.toList⟩ = S.data.toList := ⟨⟨(secL ⟨l0, e0, k0, v0, d0, (cut80 i0).data.toList, (cut80 a0).data.toList⟩).toArray⟩, by simp⟩
  have hf : Fits ⟨l0, e0, k0, v0, d0, (cut80 i0).data.toList, (cut80 a0).data.toList⟩ := okA (i := cut80 i0) (a := cut80 a0) hl0 he0 hv0 hd0
  have E0 := Lib.hid (fun w => encode_yes l0 e0 k0 v0 d0 (cut80 i0) (cut80 a0) S w hf h HS)
  have hz : S.size = 128 := by rw [Go.Lib.size_eq, ← HS]; exact secL_len h
  clear h HS hf
  have C0 := Lib.hid (fun w => lawcut_any l0 e0 k0 v0 d0 i0 a0 w hi0 ha0)
  have zi0 := cut80_size i0
  have za0 := cut80_size a0
  generalize cut80 i0 = x0 at *
  generalize cut80 a0 = y0 at *
  have G0 := layF l0 e0 k0 v0 d0 i0 a0 25 w
  have B := below1 w (.cells #[.int .u64 l0, .int .u32 e0, .int .i64 k0, .int .u64 v0, .int .u64 d0, .string i0, .string a0] 25)
  clear hi0 ha0
  go_enter Try.func6, Try.ntmps6
  go_wp2_with fail
  refine (C0.out _).mono ?_
  rintro e' w1 ⟨rfl, hb⟩
  replace G0 := G0.later hb
  replace B := Wd.Ge.trans B hb
  clear hb
  obtain ⟨cg, c0, c1, c2, c3, c4, c5, c6⟩ := G0.L
  have z0 := G0.F 0 (by omega)
  have z1 := G0.F 1 (by omega)
  have z2 := G0.F 2 (by omega)
  have z3 := G0.F 3 (by omega)
  have z4 := G0.F 4 (by omega)
  have z5 := G0.F 5 (by omega)
  have z6 := G0.F 6 (by omega)
  go_upto_region 2 with fail
  clear c0 c1 c2 c3 c4 c5 c6 cg
  clear z0 z1 z2 z3 z4 z5 z6
  replace G0 := G0.put (l := l0) (e := e0) (k := k0) (v := v0) (d := d0) (i := x0) (a := y0)
  replace B := below7 l0 e0 k0 v0 d0 x0 y0 B (Nat.le_refl w.heap.size)
  generalize (((((((w1.setCell ⟨w.heap.size, 0, none⟩ (.int .u64 l0)).setCell ⟨w.heap.size, 1, none⟩ (.int .u32 e0)).setCell ⟨w.heap.size, 2, none⟩ (.int .i64 k0)).setCell ⟨w.heap.size, 3, none⟩ (.int .u64 v0)).setCell ⟨w.heap.size, 4, none⟩ (.int .u64 d0)).setCell ⟨w.heap.size, 5, none⟩ (.string x0)).setCell ⟨w.heap.size, 6, none⟩ (.string y0)) = w2 at *
  clear C0
  obtain ⟨cg, c0, c1, c2, c3, c4, c5, c6⟩ := G0.L
  go_wp2_with fail
  refine (E0.out _).mono ?_
  rintro e' w3 ⟨rfl, hb⟩
  clear c0 c1 c2 c3 c4 c5 c6 cg
  replace G0 := G0.later hb
  replace B := Wd.Ge.trans B hb
  clear hb
  go_wp2_with fail
  refine (fixed_any _).mono ?_
  rintro e' w7 ⟨rfl, hb⟩
  go_wp2_with fail
  go_ret
  exact ⟨rfl, Wd.Ge.trans B hb⟩

set_option maxRecDepth 100000 in
set_option maxHeartbeats 8000000 in
theorem yes0 (l0 e0 k0 v0 d0 : Int) (i0 a0 : ByteArray) (p : Int) (x : Nat) (w : World) (hl0 : 0 ≤ l0 ∧ l0 < 18446744073709551616) (he0 : 0 ≤ e0 ∧ e0 < 4294967296) (hk0 : -9223372036854775808 ≤ k0 ∧ k0 ≤ 9223372036854775807) (hv0 : 0 ≤ v0 ∧ v0 < 18446744073709551616) (hd0 : 0 ≤ d0 ∧ d0 < 18446744073709551616) (hi0 : i0.size ≤ maxLen) (ha0 : a0.size ≤ maxLen) (hp : 0 ≤ p ∧ p < 256) (hx0 : ¬ x = 0) (hx : x < 256) (h : okR ⟨l0, e0, k0, v0, d0, (cut80 i0).data.toList, (cut80 a0).data.toList⟩ = true) :
    Calls Try.prog 6 #[.agg #[.int .u64 l0, .int .u32 e0, .int .i64 k0, .int .u64 v0, .int .u64 d0, .string i0, .string a0], .int .u8 p, .int .u8 x] w fun e' w' => e' = .returned (.bool true) ∧ Below w.heap.size w w' := by
  obtain ⟨S, HS⟩ : ∃ S : ByteArray, secL ⟨l0, e0, k0, v0, d0, (cut80 i0).data.toList, (cut80 a0).data.toList⟩ = S.data.toList := ⟨⟨(secL ⟨l0, e0, k0, v0, d0, (cut80 i0).data.toList, (cut80 a0).data.toList⟩).toArray⟩, by simp⟩
  have hf : Fits ⟨l0, e0, k0, v0, d0, (cut80 i0).data.toList, (cut80 a0).data.toList⟩ := okA (i := cut80 i0) (a := cut80 a0) hl0 he0 hv0 hd0
  have E0 := Lib.hid (fun w => encode_yes l0 e0 k0 v0 d0 (cut80 i0) (cut80 a0) S w hf h HS)
  have hz : S.size = 128 := by rw [Go.Lib.size_eq, ← HS]; exact secL_len h
  have hzl : S.data.toList.length = 128 := by rw [← Go.Lib.size_eq]; exact hz
  obtain ⟨j, hj⟩ : ∃ j : Nat, p % 128 = (j : Int) := ⟨(p % 128).toNat, by omega⟩
  have hj128 : j < 128 := by omega
  obtain ⟨c, hc⟩ : ∃ c : UInt8, S.data.toList[j]? = some c := ⟨_, List.getElem?_eq_getElem (by omega)⟩
  have hcb := UInt8.toNat_lt c
  have X8 := u8_xor_nat c.toNat x hcb hx
  have hdb : c.toNat ^^^ x < 256 := Nat.xor_lt_two_pow (n := 8) hcb hx
  have hdu : (UInt8.ofNat (c.toNat ^^^ x)).toNat = c.toNat ^^^ x := by
    have := toNat_ofNat_mod (c.toNat ^^^ x)
    rw [Nat.mod_eq_of_lt hdb] at this; exact this
  have hbad : isSec (S.data.toList.set j (UInt8.ofNat (c.toNat ^^^ x))) = false := by
    rw [← HS]
    refine one_bad hf h j hj128 _ ?_
    rw [HS, hc]
    intro hh
    have := congrArg UInt8.toNat (Option.some.inj hh)
    rw [hdu] at this
    have h0 : c.toNat ^^^ x = c.toNat ^^^ 0 := by rw [← this, Nat.xor_zero]
    exact hx0 (Crc.xor_injl h0)
  have hgd : S.data.toList.getD j 0 = c := by rw [List.getD_eq_getElem?_getD, hc]; rfl
  generalize hD : UInt8.ofNat (c.toNat ^^^ x) = dd at *
  rw [← hdu] at X8
  clear h HS hf hdb hD hdu
  have hx' : (x : Int) < 256 := by omega
  have ex : ((x : Int) == 0) = false := by rw [beq_eq_false_iff_ne]; omega
  have hp1 := hp.1
  have hp2 := hp.2
  have C0 := Lib.hid (fun w => lawcut_any l0 e0 k0 v0 d0 i0 a0 w hi0 ha0)
  have zi0 := cut80_size i0
  have za0 := cut80_size a0
  generalize cut80 i0 = x0 at *
  generalize cut80 a0 = y0 at *
  have G0 := layF l0 e0 k0 v0 d0 i0 a0 25 w
  have B := below1 w (.cells #[.int .u64 l0, .int .u32 e0, .int .i64 k0, .int .u64 v0, .int .u64 d0, .string i0, .string a0] 25)
  clear hi0 ha0
  go_enter Try.func6, Try.ntmps6
  go_wp2_with fail
  refine (C0.out _).mono ?_
  rintro e' w1 ⟨rfl, hb⟩
  replace G0 := G0.later hb
  replace B := Wd.Ge.trans B hb
  clear hb
  obtain ⟨cg, c0, c1, c2, c3, c4, c5, c6⟩ := G0.L
  have z0 := G0.F 0 (by omega)
  have z1 := G0.F 1 (by omega)
  have z2 := G0.F 2 (by omega)
  have z3 := G0.F 3 (by omega)
  have z4 := G0.F 4 (by omega)
  have z5 := G0.F 5 (by omega)
  have z6 := G0.F 6 (by omega)
  go_upto_region 2 with fail
  clear c0 c1 c2 c3 c4 c5 c6 cg
  clear z0 z1 z2 z3 z4 z5 z6
  replace G0 := G0.put (l := l0) (e := e0) (k := k0) (v := v0) (d := d0) (i := x0) (a := y0)
  replace B := below7 l0 e0 k0 v0 d0 x0 y0 B (Nat.le_refl w.heap.size)
  generalize (((((((w1.setCell ⟨w.heap.size, 0, none⟩ (.int .u64 l0)).setCell ⟨w.heap.size, 1, none⟩ (.int .u32 e0)).setCell ⟨w.heap.size, 2, none⟩ (.int .i64 k0)).setCell ⟨w.heap.size, 3, none⟩ (.int .u64 v0)).setCell ⟨w.heap.size, 4, none⟩ (.int .u64 d0)).setCell ⟨w.heap.size, 5, none⟩ (.string x0)).setCell ⟨w.heap.size, 6, none⟩ (.string y0)) = w2 at *
  clear C0
  obtain ⟨cg, c0, c1, c2, c3, c4, c5, c6⟩ := G0.L
  go_wp2_with fail
  refine (E0.out _).mono ?_
  rintro e' w3 ⟨rfl, hb⟩
  clear c0 c1 c2 c3 c4 c5 c6 cg
  replace G0 := G0.later hb
  replace B := Wd.Ge.trans B hb
  clear hb
  obtain ⟨cap, W1, hconv, hrow, hbw⟩ := bytes_new w3 S
  have hrow2 := hrow.set j (by omega) dd
  have cell := hrow.cell j (by omega)
  have free := hrow.free j (by omega)
  rw [hgd] at cell
  have hback := bytes_back (cap := cap) hrow2
  rw [List.length_set, hzl] at hback
  have D0 := Lib.hid (fun w => decode_no ⟨(S.data.toList.set j dd).toArray⟩ w (by rw [Go.Lib.size_eq]; simp; omega) (by simpa using hbad))
  rw [hz] at hconv
  generalize (⟨(S.data.toList.set j dd).toArray⟩ : ByteArray) = S' at *
  have B2 := Wd.Ge.trans B (Wd.Ge.trans hbw ((Below.refl W1.heap.size W1).trans (Below.refl _ _)))
  have hge : w.heap.size ≤ w3.heap.size := B.size
  have HB := Lib.hid (B2.setCell (p := ⟨w3.heap.size, j, none⟩) hge (.int .u8 ((dd.toNat : Nat) : Int)))
  have hji : (j : Int) < 128 := by omega
  clear hrow hrow2 hbw B2 G0 B hbad hgd hc
  generalize c.toNat = cc at *
  generalize dd.toNat = de at *
  go_wp2_with fail
  refine (D0.out _).mono ?_
  rintro e' w5 ⟨rfl, hb⟩
  have B := Wd.Ge.trans HB.out hb
  clear hb HB
  have hb := below1 w5 (.cells #[.int .u64 0, .int .u32 0, .int .i64 0, .int .u64 0, .int .u64 0, .string ⟨#[]⟩, .string ⟨#[]⟩] 25)
  replace B := Wd.Ge.trans B hb
  clear hb
  go_wp2_with fail
  refine (fixed_any _).mono ?_
  rintro e' w7 ⟨rfl, hb⟩
  go_wp2_with fail
  go_ret
  exact ⟨rfl, Wd.Ge.trans B hb⟩

theorem walk (l0 e0 k0 v0 d0 : Int) (i0 a0 : ByteArray) (p x : Int) (w : World) (hl0 : 0 ≤ l0 ∧ l0 < 18446744073709551616) (he0 : 0 ≤ e0 ∧ e0 < 4294967296) (hk0 : -9223372036854775808 ≤ k0 ∧ k0 ≤ 9223372036854775807) (hv0 : 0 ≤ v0 ∧ v0 < 18446744073709551616) (hd0 : 0 ≤ d0 ∧ d0 < 18446744073709551616) (hi0 : i0.size ≤ maxLen) (ha0 : a0.size ≤ maxLen) (w1 : (Lit.int .u8 p).wf = true) (w2 : (Lit.int .u8 x).wf = true) :
    Calls Try.prog 6 #[.agg #[.int .u64 l0, .int .u32 e0, .int .i64 k0, .int .u64 v0, .int .u64 d0, .string i0, .string a0], .int .u8 p, .int .u8 x] w fun e' w' => e' = .returned (.bool true) ∧ Below w.heap.size w w' := by
  have hp := u8_of w1
  have hx := u8_of w2
  cases h0 : okR ⟨l0, e0, k0, v0, d0, (cut80 i0).data.toList, (cut80 a0).data.toList⟩
  · exact no0 l0 e0 k0 v0 d0 i0 a0 p x w hl0 he0 hk0 hv0 hd0 hi0 ha0 h0
  · obtain ⟨x, rfl⟩ := Int.eq_ofNat_of_zero_le hx.1
    by_cases hz : x = 0
    · subst hz
      exact zero0 l0 e0 k0 v0 d0 i0 a0 p w hl0 he0 hk0 hv0 hd0 hi0 ha0 h0
    · exact yes0 l0 e0 k0 v0 d0 i0 a0 p x w hl0 he0 hk0 hv0 hd0 hi0 ha0 hp hz (by omega) h0

set_option maxRecDepth 100000 in
theorem lifted (os : Os) (started : os.Started) (H : Type) (enc : TypeId × Value → H) :
    ReturnsInHanded {} Try.checked os 6 .any (Rows.recordOneSpec.pre6 enc Try.prog Try.f6 Rows.recordOneRow.domain false) (Rows.recordOneSpec.post enc Try.prog Try.f6 false true false false) := by
  refine returnsInHanded_of_change (C := Try.checked) own started (by kernel_rfl) Try.func6
    (ChangeSpec.witness6 (enc := enc) (C := Try.checked) false ⟨#[], #[.agg #[.int .u64 0, .int .u32 0, .int .i64 0, .int .u64 0, .int .u64 0, .string ByteArray.empty, .string ByteArray.empty], .int .u8 0, .int .u8 0], []⟩ 8 (by kernel_rfl) (by kernel_rfl) (by kernel_rfl) (by kernel_rfl)) ?_
  intro W base args ds gs before hval0 hW hcnd _
  have hval : ∀ (j : Nat) t v, Try.f6.params[j]? = some t → args[j]? = some v → Value.okWide Try.prog W .any base t v := hval0
  have hW' := hW
  obtain ⟨p, q, hA0, hV, rfl, hfz, hnd⟩ := hW
  have hA : DataW.TrodAll enc Try.prog W 0 (fun _ => true) true Try.f6.params.toList args.toList ds p := hA0
  rw [Try.params6] at hA hval
  obtain ⟨v0, vs0, d0, ds0, p0, q0, hargs, rfl, rfl, h0, r0⟩ := trodAll_cons hA
  obtain ⟨v1, vs1, d1, ds1, p1, q1, rfl, rfl, rfl, h1, r1⟩ := trodAll_cons r0
  obtain ⟨v2, vs2, d2, ds2, p2, q2, rfl, rfl, rfl, h2, r2⟩ := trodAll_cons r1
  obtain ⟨rfl, rfl, rfl⟩ := trodAll_nil r2
  obtain rfl : args = #[v0, v1, v2] := by cases args; simp_all
  obtain ⟨rfl, rfl⟩ := trodVars_none hV
  obtain ⟨l0, e0, k0, v0, d0, i0, a0, rfl, hl0, he0, hk0, hv0, hd0, hi0, ha0⟩ := open_rec (hval 0 25 v0 rfl rfl) h0
  obtain ⟨a1, rfl, rfl, rfl, w1⟩ := open_int Try.underlying5 (hval 1 5 v1 rfl rfl) h1
  obtain ⟨a2, rfl, rfl, rfl, w2⟩ := open_int Try.underlying5 (hval 2 5 v2 rfl rfl) h2
  clear hA0 hval0
  try simp only [List.append_nil] at hW'
  try simp only [List.nil_append] at hW'
  have hlt := fun x hx => hW'.lt x hx
  refine (walk l0 e0 k0 v0 d0 i0 a0 a1 a2 W hl0 he0 hk0 hv0 hd0 hi0 ha0 w1 w2).mono fun e W' ⟨he, hg⟩ => ?_
  subst he
  refine ⟨_, rfl, post_mem hW' (fun _ _ _ => (trodAll_cons_mk (shut_bool Try.underlying4 _) trodAll_mk0)) (fun sp hsp => ?_) (fun _ => rfl) hg (ok_one (by kernel_rfl) rfl (okWide_bool_mk Try.underlying4 _))⟩
  have hall := (trodAll_cons_mk (arg_same (sp := sp) laid (by kernel_rfl) (of_decide_eq_true (by kernel_rfl)) h0 hg (by intro x hx; simp_all) hlt hsp) (trodAll_cons_mk (arg_same (sp := sp) laid (by kernel_rfl) (of_decide_eq_true (by kernel_rfl)) h1 hg (by intro x hx; simp_all) hlt hsp) (trodAll_cons_mk (arg_same (sp := sp) laid (by kernel_rfl) (of_decide_eq_true (by kernel_rfl)) h2 hg (by intro x hx; simp_all) hlt hsp) trodAll_mk0)))
  try simp only [List.append_nil] at hall
  try simp only [List.nil_append] at hall
  exact hall

theorem over : Rows.recordOneRow.holds Try.pinned (OpenSpec.ofChange Rows.recordOneSpec) :=
  OpenClaim.holds_of_wide 6 Try.f6 rfl rfl rfl rfl rfl rfl rfl ⟨rfl, rfl, rfl, rfl, rfl⟩ rfl rfl rfl rfl rfl (by kernel_rfl) Try.func6 (by kernel_rfl)
    (of_decide_eq_true (by kernel_rfl)) (by unfold Func.isWrapper; first | (rw [if_pos (by decide +kernel)]; kernel_rfl) | (rw [if_neg (by decide +kernel)]; exact ⟨rfl, rfl⟩))
    (fun os started H enc _ => lifted os started H enc)

theorem proved : Rows.RecordOneSaid := over
#print axioms proved
end Go.Proofs.Ytgpcfdkblkkpeaa.recordOne
