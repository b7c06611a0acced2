/- The contract of the statements' own fixed: the calls whose answers the document fixes have these answers; no memory that was there is changed. -/
import Derived.Test.YtgpcfdkblkkpeaaRecL
namespace Go.Proofs.Ytgpcfdkblkkpeaa
open Go.RowKit Go.Lib Wd Cr Ck
set_option linter.unusedVariables false

set_option maxHeartbeats 8000000 in
set_option maxRecDepth 100000 in
theorem fixed_any (w : World) : Calls Try.prog 19 #[] w fun e' w' => e' = .returned (.bool true) ∧ Below w.heap.size w w' := by
  obtain ⟨S, HS⟩ : ∃ S : ByteArray, Hid (secL fixR = S.data.toList) := ⟨⟨(secL fixR).toArray⟩, Lib.hid (by simp)⟩
  have hz : S.size = 128 := by rw [Go.Lib.size_eq, ← HS.out]; exact secL_len fix_ok
  have hzi : (S.size : Int) = 128 := by omega
  have hc : cutR S.data.toList = fixR := by rw [← HS.out]; exact cutR_secL fix_fits fix_ok
  have hsec : isSec S.data.toList = true := by rw [← HS.out]; exact isSec_secL fix_fits fix_ok
  have b0 := fix_byte S HS.out 0 1 (by kernel_rfl) (by omega)
  have b8 := fix_byte S HS.out 8 1 (by kernel_rfl) (by omega)
  have b12 := fix_byte S HS.out 12 1 (by kernel_rfl) (by omega)
  have b13 := fix_byte S HS.out 13 1 (by kernel_rfl) (by omega)
  have b14 := fix_byte S HS.out 14 1 (by kernel_rfl) (by omega)
  have b15 := fix_byte S HS.out 15 1 (by kernel_rfl) (by omega)
  have b23 := fix_byte S HS.out 23 9 (by kernel_rfl) (by omega)
  have b31 := fix_byte S HS.out 31 97 (by kernel_rfl) (by omega)
  have b32 := fix_byte S HS.out 32 118 (by kernel_rfl) (by omega)
  have b33 := fix_byte S HS.out 33 0 (by kernel_rfl) (by omega)
  have b116 := fix_byte S HS.out 116 1 (by kernel_rfl) (by omega)
  have b124 := fix_byte S HS.out 124 1 (by kernel_rfl) (by omega)
  have C1 := Lib.hid (fun w => encode_yes 1 1 1 1 9 ⟨#[97]⟩ ⟨#[118]⟩ S w fix_fits fix_ok HS.out)
  have C2 := Lib.hid (fun w => decode_yes S 1 1 1 1 9 ⟨#[97]⟩ ⟨#[118]⟩ w (by omega) hc hsec)
  have C3 := Lib.hid (fun w => decode_no (S.extract 1 128) w (by rw [ByteArray.size_extract]; omega) (notlen (by rw [← Go.Lib.size_eq, ByteArray.size_extract]; omega)))
  have C4 := Lib.hid (fun w => decode_no (zeroTo 128) w (by rw [zeroTo_size]; omega) (notzero (by kernel_rfl)))
  have C5 := Lib.hid (fun w => encode_no 0 0 1 0 0 ⟨#[97]⟩ ⟨#[]⟩ w (by decide) (by decide) (by decide))
  have C6 := Lib.hid (fun w => next_yes S 1 1 1 1 9 ⟨#[97]⟩ ⟨#[118]⟩ w (by omega) hc hsec)
  have C7 := Lib.hid (fun w => next_not S 1 1 1 1 9 ⟨#[97]⟩ ⟨#[118]⟩ 2 1 w (by omega) hc hsec (by omega))
  have C8 := Lib.hid (fun w => next_not S 1 1 1 1 9 ⟨#[97]⟩ ⟨#[118]⟩ 1 2 w (by omega) hc hsec (by omega))
  have C9 := Lib.hid (fun w => right_any 1 1 1 1 9 ⟨#[97]⟩ ⟨#[118]⟩ true w (by decide) (by decide) fix_ok)
  have C10 := Lib.hid (fun w => right_any 1 0 3 0 16 ⟨#[]⟩ ⟨#[]⟩ false w (by decide) (by decide) (by decide))
  have L0 := layR 1 1 1 1 9 ⟨#[97]⟩ ⟨#[118]⟩ 25 w
  have B0 := below1 w (.cells #[.int .u64 1, .int .u32 1, .int .i64 1, .int .u64 1, .int .u64 9, .string ⟨#[97]⟩, .string ⟨#[118]⟩] 25)
  clear hc hsec
  go_enter Try.func19, Try.ntmps19
  go_wp2_with fail
  refine (C1.out _).mono ?_
  rintro e' w1 ⟨rfl, hb⟩
  replace L0 := L0.later hb
  replace B0 := Wd.Ge.trans B0 hb
  clear hb
  go_wp2_with fail
  refine (C2.out _).mono ?_
  rintro e' w2 ⟨rfl, hb⟩
  replace L0 := L0.later hb
  replace B0 := Wd.Ge.trans B0 hb
  clear hb
  have M0 := layR 1 1 1 1 9 ⟨#[97]⟩ ⟨#[118]⟩ 25 w2
  have hb := below1 w2 (.cells #[.int .u64 1, .int .u32 1, .int .i64 1, .int .u64 1, .int .u64 9, .string ⟨#[97]⟩, .string ⟨#[118]⟩] 25)
  replace L0 := L0.later hb
  replace B0 := Wd.Ge.trans B0 hb
  clear hb
  go_wp2_with fail
  refine (C3.out _).mono ?_
  rintro e' w3 ⟨rfl, hb⟩
  replace L0 := L0.later hb
  replace M0 := M0.later hb
  replace B0 := Wd.Ge.trans B0 hb
  clear hb
  have hb := below1 w3 (.cells #[.int .u64 0, .int .u32 0, .int .i64 0, .int .u64 0, .int .u64 0, .string ⟨#[]⟩, .string ⟨#[]⟩] 25)
  replace L0 := L0.later hb
  replace M0 := M0.later hb
  replace B0 := Wd.Ge.trans B0 hb
  clear hb
  go_wp2_with fail
  refine (zero_any _).mono ?_
  rintro e' w4' ⟨rfl, rfl⟩
  go_wp2_with fail
  refine (C4.out _).mono ?_
  rintro e' w4 ⟨rfl, hb⟩
  replace L0 := L0.later hb
  replace M0 := M0.later hb
  replace B0 := Wd.Ge.trans B0 hb
  clear hb
  have hb := below1 w4 (.cells #[.int .u64 0, .int .u32 0, .int .i64 0, .int .u64 0, .int .u64 0, .string ⟨#[]⟩, .string ⟨#[]⟩] 25)
  replace L0 := L0.later hb
  replace M0 := M0.later hb
  replace B0 := Wd.Ge.trans B0 hb
  clear hb
  go_wp2_with fail
  refine (C5.out _).mono ?_
  rintro e' w5 ⟨rfl, hb⟩
  replace L0 := L0.later hb
  replace M0 := M0.later hb
  replace B0 := Wd.Ge.trans B0 hb
  clear hb
  go_wp2_with fail
  refine (C6.out _).mono ?_
  rintro e' w6 ⟨rfl, hb⟩
  replace L0 := L0.later hb
  replace M0 := M0.later hb
  replace B0 := Wd.Ge.trans B0 hb
  clear hb
  have hb := below1 w6 (.cells #[.int .u64 1, .int .u32 1, .int .i64 1, .int .u64 1, .int .u64 9, .string ⟨#[97]⟩, .string ⟨#[118]⟩] 25)
  replace L0 := L0.later hb
  replace M0 := M0.later hb
  replace B0 := Wd.Ge.trans B0 hb
  clear hb
  go_wp2_with fail
  refine (C7.out _).mono ?_
  rintro e' w7 ⟨rfl, hb⟩
  replace L0 := L0.later hb
  replace M0 := M0.later hb
  replace B0 := Wd.Ge.trans B0 hb
  clear hb
  have hb := below1 w7 (.cells #[.int .u64 0, .int .u32 0, .int .i64 0, .int .u64 0, .int .u64 0, .string ⟨#[]⟩, .string ⟨#[]⟩] 25)
  replace L0 := L0.later hb
  replace M0 := M0.later hb
  replace B0 := Wd.Ge.trans B0 hb
  clear hb
  go_wp2_with fail
  refine (C8.out _).mono ?_
  rintro e' w8 ⟨rfl, hb⟩
  replace L0 := L0.later hb
  replace M0 := M0.later hb
  replace B0 := Wd.Ge.trans B0 hb
  clear hb
  have hb := below1 w8 (.cells #[.int .u64 0, .int .u32 0, .int .i64 0, .int .u64 0, .int .u64 0, .string ⟨#[]⟩, .string ⟨#[]⟩] 25)
  replace L0 := L0.later hb
  replace M0 := M0.later hb
  replace B0 := Wd.Ge.trans B0 hb
  clear hb
  go_upto_region 12 with fail
  generalize w8.alloc (.cells #[.int .u64 0, .int .u32 0, .int .i64 0, .int .u64 0, .int .u64 0, .string ⟨#[]⟩, .string ⟨#[]⟩] 25) = w9 at *
  clear C1 C2 C3 C4 C5 C6 C7 C8
  have LL := Lib.hid L0
  obtain ⟨g, c0, c1, c2, c3, c4, c5, c6⟩ := L0
  obtain ⟨g', m0, m1, m2, m3, m4, m5, m6⟩ := M0
  go_wp2_with fail
  refine (C9.out _).mono ?_
  rintro e' w10 ⟨rfl, hb⟩
  replace B0 := Wd.Ge.trans B0 hb
  clear hb
  go_wp2_with fail
  refine (C10.out _).mono ?_
  rintro e' w11 ⟨rfl, hb⟩
  replace B0 := Wd.Ge.trans B0 hb
  clear hb
  go_wp2_with fail
  go_ret
  exact ⟨rfl, B0⟩

end Go.Proofs.Ytgpcfdkblkkpeaa
