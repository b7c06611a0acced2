/- Contracts of the document's own Decode and Next (lodgerref06), for every text, place and epoch: as the program's own. -/
import Derived.Test.YtgpcfdkblkkpeaaRecU
namespace Go.Proofs.Ytgpcfdkblkkpeaa
open Go.RowKit Go.Lib Wd Cr Ck
set_option linter.unusedVariables false

namespace R6
set_option maxHeartbeats 4000000 in
set_option maxRecDepth 100000 in
theorem decode_big (s : ByteArray) (n3 n4 : Nat) (w : World) (hz : s.size = 128) (b13 : (s[13]'(by omega)).toNat = n3) (b14 : (s[14]'(by omega)).toNat = n4) (hn : 112 < 31 + n3 + n4) :
    Calls Try.prog 14 #[.string s] w fun e' w' => e' = .returned (.tuple #[.agg #[.int .u64 0, .int .u32 0, .int .i64 0, .int .u64 0, .int .u64 0, .string ⟨#[]⟩, .string ⟨#[]⟩], .int .i64 5]) ∧ Below w.heap.size w w' := by
  have hzi : (s.size : Int) = 128 := by omega
  have Z := layZ 33 w
  have B := below1 w (.cells #[.int .u64 0, .int .u32 0, .int .i64 0, .int .u64 0, .int .u64 0, .string ⟨#[]⟩, .string ⟨#[]⟩] 33)
  have c3 : (n3 : Int) < 256 := by
    have := (s[13]'(by omega)).toNat_lt
    omega
  have c4 : (n4 : Int) < 256 := by
    have := (s[14]'(by omega)).toNat_lt
    omega
  have hn' : 112 < 31 + (n3 : Int) + (n4 : Int) := by omega
  go_enter Try.func14, Try.ntmps14
  go_upto_region 1 with fail
  generalize w.alloc (.cells #[.int .u64 0, .int .u32 0, .int .i64 0, .int .u64 0, .int .u64 0, .string ⟨#[]⟩, .string ⟨#[]⟩] 33) = w1 at *
  have h0 : DZ w w1 := ⟨B, Z⟩
  clear B Z
  go_wp2_with fail
  have hne : Nonempty (In (DZ w)) := ⟨⟨_, h0⟩⟩
  refine region_class (DZ w) (by kernel_rfl) (by kernel_rfl) h0.drawn ?_
  repeat (go_big_quiet_step (fail))
  refine wpQuiet_nil ?_
  rintro _ ⟨jj, rfl⟩
  obtain ⟨w2, h2⟩ := jj
  simp only
  clear h0 hne
  obtain ⟨B, Z⟩ := h2
  obtain ⟨g', o0, o1, o2, o3, o4, o5, o6⟩ := Z.L
  have z0 := Z.F 0 (by omega)
  have z1 := Z.F 1 (by omega)
  have z2 := Z.F 2 (by omega)
  have z3 := Z.F 3 (by omega)
  have z4 := Z.F 4 (by omega)
  have z5 := Z.F 5 (by omega)
  have z6 := Z.F 6 (by omega)
  have ZZ := Lib.hid Z
  have BB := Lib.hid B
  clear Z B
  go_wp2_with fail
  have L := put7 0 0 0 0 0 ⟨#[]⟩ ⟨#[]⟩ (there_of ZZ.out.L ZZ.out.F) ZZ.out.L.lt
  have HB := below7 0 0 0 0 0 ⟨#[]⟩ ⟨#[]⟩ BB.out (Nat.le_refl _)
  exact bodyPost_ret (res_rec2 rfl _ _ w.heap.size rfl L) rfl ⟨rfl, HB⟩

theorem n_of (s : ByteArray) (hz : s.size = 128) (n3 n4 : Nat) (b13 : (s[13]'(by omega)).toNat = n3) (b14 : (s[14]'(by omega)).toNat = n4) : getN ((s.data.toList.drop 13).take 1) = n3 ∧ getN ((s.data.toList.drop 14).take 1) = n4 := by
  have hl : s.data.toList.length = 128 := by rw [← Go.Lib.size_eq]; exact hz
  rw [getN_one _ _ (by omega), getN_one _ _ (by omega), ← R1.byte_get s 13 (by omega), ← R1.byte_get s 14 (by omega)]
  exact ⟨b13, b14⟩

/-- What the document's Decode asks of the lengths holds of every sector. -/
theorem sec_small (s : ByteArray) (hz : s.size = 128) (n3 n4 : Nat) (b13 : (s[13]'(by omega)).toNat = n3) (b14 : (s[14]'(by omega)).toNat = n4) (h : okR (cutR s.data.toList) = true) : 31 + n3 + n4 ≤ 112 := by
  obtain ⟨e3, e4⟩ := n_of s hz n3 n4 b13 b14
  have hl : s.data.toList.length = 128 := by rw [← Go.Lib.size_eq]; exact hz
  have h1 := okR_i h
  have h2 := okR_a h
  simp only [cutR, List.length_take, List.length_drop, e3, e4, hl] at h1 h2
  omega

/-- lodgerref06.Decode, told in one. -/
theorem decode_is (s : ByteArray) (l e k v d : Int) (i a : ByteArray) (w : World) (hs : s.size ≤ maxLen) (hR : cutR s.data.toList = ⟨l, e, k, v, d, i.data.toList, a.data.toList⟩) (rv : Value) (rx : Int)
    (hx : (isSec s.data.toList = true ∧ rv = .agg #[.int .u64 l, .int .u32 e, .int .i64 k, .int .u64 v, .int .u64 d, .string i, .string a] ∧ rx = 0) ∨ (isSec s.data.toList = false ∧ rv = .agg #[.int .u64 0, .int .u32 0, .int .i64 0, .int .u64 0, .int .u64 0, .string ⟨#[]⟩, .string ⟨#[]⟩] ∧ rx = 5)) :
    Calls Try.prog 14 #[.string s] w fun e' w' => e' = .returned (.tuple #[rv, .int .i64 rx]) ∧ Below w.heap.size w w' := by
  by_cases hz : s.size = 128
  · obtain ⟨n3, b13⟩ : ∃ n, (s[13]'(by omega)).toNat = n := ⟨_, rfl⟩
    obtain ⟨n4, b14⟩ : ∃ n, (s[14]'(by omega)).toNat = n := ⟨_, rfl⟩
    obtain ⟨e3, e4⟩ := n_of s hz n3 n4 b13 b14
    have hl : s.data.toList.length = 128 := by rw [← Go.Lib.size_eq]; exact hz
    have hf := cutR_fits s.data.toList
    by_cases hn : 31 + n3 + n4 ≤ 112
    · have q0 := congrArg Rec.l hR
      have q1 := congrArg Rec.e hR
      have q2 := congrArg Rec.k hR
      have q3 := congrArg Rec.v hR
      have q4 := congrArg Rec.d hR
      have q5 := congrArg Rec.i hR
      have q6 := congrArg Rec.a hR
      simp only [cutR, e3, e4] at q0 q1 q2 q3 q4 q5 q6
      rw [hR] at hf
      have hzi : i.size ≤ maxLen := by
        have := congrArg List.length q5
        rw [List.length_take, List.length_drop, ← Go.Lib.size_eq i] at this
        unfold maxLen; omega
      have hza : a.size ≤ maxLen := by
        have := congrArg List.length q6
        rw [List.length_take, List.length_drop, ← Go.Lib.size_eq a] at this
        unfold maxLen; omega
      have g2 : ((s[12]'(by omega)).toNat : Int) = k := by
        rw [← q2, getN_one _ _ (by omega), R1.byte_get]
      have x4 : s.extract 31 (31 + n3) = i := bytes_ext (by rw [ext_mid, show 31 + n3 - 31 = n3 by omega]; exact q5)
      have x5 : s.extract (31 + n3) (31 + n3 + n4) = a := bytes_ext (by rw [ext_mid, show 31 + n3 + n4 - (31 + n3) = n4 by omega]; exact q6)
      have he : 0 ≤ e ∧ e < 4294967296 := ⟨hf.e0, hf.e1⟩
      have key : ∃ (S : ByteArray) (x : Int), (∀ w, Calls Try.prog 11 #[.agg #[.int .u64 l, .int .u32 e, .int .i64 k, .int .u64 v, .int .u64 d, .string i, .string a]] w fun e' w' => e' = .returned (.tuple #[.string S, .int .i64 x]) ∧ Below w.heap.size w w') ∧
          ((x = 0 ∧ S = s ∧ rv = .agg #[.int .u64 l, .int .u32 e, .int .i64 k, .int .u64 v, .int .u64 d, .string i, .string a] ∧ rx = 0) ∨ ((x = 5 ∨ x = 0 ∧ (S.toList == s.toList) = false) ∧ rv = .agg #[.int .u64 0, .int .u32 0, .int .i64 0, .int .u64 0, .int .u64 0, .string ⟨#[]⟩, .string ⟨#[]⟩] ∧ rx = 5)) := by
        rcases hx with ⟨h1, h2, h3⟩ | ⟨h1, h2, h3⟩
        · obtain ⟨ho, hq⟩ := (isSec_iff _).1 h1
          rw [hR] at ho hq
          exact ⟨s, 0, fun w => encode_yes l e k v d i a s w hf ho hq, .inl ⟨rfl, rfl, h2, h3⟩⟩
        · cases ho : okR ⟨l, e, k, v, d, i.data.toList, a.data.toList⟩
          · exact ⟨⟨#[]⟩, 5, fun w => encode_no l e k v d i a w hzi hza ho, .inr ⟨.inl rfl, h2, h3⟩⟩
          · refine ⟨⟨(secL ⟨l, e, k, v, d, i.data.toList, a.data.toList⟩).toArray⟩, 0, fun w => encode_yes l e k v d i a _ w hf ho (by simp), .inr ⟨.inr ⟨rfl, ne_str ?_⟩, h2, h3⟩⟩
            intro hq
            have : isSec s.data.toList = true := by
              rw [isSec_iff, hR]; exact ⟨ho, by simpa using hq⟩
            rw [h1] at this; exact absurd this (by decide)
      obtain ⟨S, x, E, hx'⟩ := key
      exact decode_at s l e k v d i a S x n3 n4 w hz b13 b14 hn (Lib.hid (by rw [ext_mid]; exact q0)) (Lib.hid (by rw [ext_mid]; exact q1)) g2 (Lib.hid (by rw [ext_mid]; exact q3)) (Lib.hid (by rw [ext_mid]; exact q4)) x4 x5 he (Lib.hid E) rv rx hx'
    · rcases hx with ⟨h1, h2, h3⟩ | ⟨h1, rfl, rfl⟩
      · exact absurd (sec_small s hz n3 n4 b13 b14 ((isSec_iff _).1 h1).1) hn
      · exact decode_big s n3 n4 w hz b13 b14 (by omega)
  · rcases hx with ⟨h1, h2, h3⟩ | ⟨h1, rfl, rfl⟩
    · exact absurd (by have := isSec_len h1; rw [← Go.Lib.size_eq] at this; exact this) hz
    · exact decode_len s w hs hz

set_option maxHeartbeats 4000000 in
set_option maxRecDepth 100000 in
theorem next_no (s : ByteArray) (l e k v d : Int) (i a : ByteArray) (z x y : Int) (w : World) (D : Hid (∀ w, Calls Try.prog 14 #[.string s] w fun e' w' => e' = .returned (.tuple #[.agg #[.int .u64 l, .int .u32 e, .int .i64 k, .int .u64 v, .int .u64 d, .string i, .string a], .int .i64 z]) ∧ Below w.heap.size w w'))
    (hc : z = 5 ∨ (z = 0 ∧ (l == x) = false) ∨ (z = 0 ∧ l = x ∧ (e == y) = false)) :
    Calls Try.prog 16 #[.string s, .int .u64 x, .int .u32 y] w fun e' w' => e' = .returned (.tuple #[.agg #[.int .u64 0, .int .u32 0, .int .i64 0, .int .u64 0, .int .u64 0, .string ⟨#[]⟩, .string ⟨#[]⟩], .bool false]) ∧ Below w.heap.size w w' := by
  have Z := layZ 33 w
  have B := below1 w (.cells #[.int .u64 0, .int .u32 0, .int .i64 0, .int .u64 0, .int .u64 0, .string ⟨#[]⟩, .string ⟨#[]⟩] 33)
  go_enter Try.func16, Try.ntmps16
  go_wp2_with fail
  refine (D.out _).mono ?_
  rintro e' w1 ⟨rfl, hb⟩
  replace Z := Z.later hb
  replace B := Wd.Ge.trans B hb
  clear hb D
  have M := layR l e k v d i a 33 w1
  have hb := below1 w1 (.cells #[.int .u64 l, .int .u32 e, .int .i64 k, .int .u64 v, .int .u64 d, .string i, .string a] 33)
  replace Z := Z.later hb
  replace B := Wd.Ge.trans B hb
  clear hb
  go_upto_region 2 with fail
  generalize w1.alloc (.cells #[.int .u64 l, .int .u32 e, .int .i64 k, .int .u64 v, .int .u64 d, .string i, .string a] 33) = w2 at *
  generalize w1.heap.size = b8 at *
  obtain ⟨cg, c0, c1, c2, c3, c4, c5, c6⟩ := M
  rcases hc with rfl | ⟨rfl, hq⟩ | ⟨rfl, rfl, hq⟩
  all_goals
    obtain ⟨g', o0, o1, o2, o3, o4, o5, o6⟩ := Z.L
    have z0 := Z.F 0 (by omega)
    have z1 := Z.F 1 (by omega)
    have z2 := Z.F 2 (by omega)
    have z3 := Z.F 3 (by omega)
    have z4 := Z.F 4 (by omega)
    have z5 := Z.F 5 (by omega)
    have z6 := Z.F 6 (by omega)
    have ZZ := Lib.hid Z
    have BB := Lib.hid B
    clear Z B
    go_wp2_with fail
    have L := put7 0 0 0 0 0 ⟨#[]⟩ ⟨#[]⟩ (there_of ZZ.out.L ZZ.out.F) ZZ.out.L.lt
    have HB := below7 0 0 0 0 0 ⟨#[]⟩ ⟨#[]⟩ BB.out (Nat.le_refl _)
    exact bodyPost_ret (res_rec2 rfl _ _ w.heap.size rfl L) rfl ⟨rfl, HB⟩

set_option maxHeartbeats 4000000 in
set_option maxRecDepth 100000 in
theorem next_yes (s : ByteArray) (l e k v d : Int) (i a : ByteArray) (w : World) (D : Hid (∀ w, Calls Try.prog 14 #[.string s] w fun e' w' => e' = .returned (.tuple #[.agg #[.int .u64 l, .int .u32 e, .int .i64 k, .int .u64 v, .int .u64 d, .string i, .string a], .int .i64 0]) ∧ Below w.heap.size w w')) :
    Calls Try.prog 16 #[.string s, .int .u64 l, .int .u32 e] w fun e' w' => e' = .returned (.tuple #[.agg #[.int .u64 l, .int .u32 e, .int .i64 k, .int .u64 v, .int .u64 d, .string i, .string a], .bool true]) ∧ Below w.heap.size w w' := by
  have Z := layZ 33 w
  have B := below1 w (.cells #[.int .u64 0, .int .u32 0, .int .i64 0, .int .u64 0, .int .u64 0, .string ⟨#[]⟩, .string ⟨#[]⟩] 33)
  go_enter Try.func16, Try.ntmps16
  go_wp2_with fail
  refine (D.out _).mono ?_
  rintro e' w1 ⟨rfl, hb⟩
  replace Z := Z.later hb
  replace B := Wd.Ge.trans B hb
  clear hb D
  have M := layR l e k v d i a 33 w1
  have hb := below1 w1 (.cells #[.int .u64 l, .int .u32 e, .int .i64 k, .int .u64 v, .int .u64 d, .string i, .string a] 33)
  replace Z := Z.later hb
  replace B := Wd.Ge.trans B hb
  clear hb
  go_upto_region 2 with fail
  generalize w1.alloc (.cells #[.int .u64 l, .int .u32 e, .int .i64 k, .int .u64 v, .int .u64 d, .string i, .string a] 33) = w2 at *
  generalize w1.heap.size = b8 at *
  obtain ⟨cg, c0, c1, c2, c3, c4, c5, c6⟩ := M
  obtain ⟨g', o0, o1, o2, o3, o4, o5, o6⟩ := Z.L
  have z0 := Z.F 0 (by omega)
  have z1 := Z.F 1 (by omega)
  have z2 := Z.F 2 (by omega)
  have z3 := Z.F 3 (by omega)
  have z4 := Z.F 4 (by omega)
  have z5 := Z.F 5 (by omega)
  have z6 := Z.F 6 (by omega)
  have ZZ := Lib.hid Z
  have BB := Lib.hid B
  clear Z B
  go_wp2_with fail
  have L := put7 l e k v d i a (there_of ZZ.out.L ZZ.out.F) ZZ.out.L.lt
  have HB := below7 l e k v d i a BB.out (Nat.le_refl _)
  exact bodyPost_ret (res_rec2 rfl _ _ w.heap.size rfl L) rfl ⟨rfl, HB⟩

end R6
end Go.Proofs.Ytgpcfdkblkkpeaa
