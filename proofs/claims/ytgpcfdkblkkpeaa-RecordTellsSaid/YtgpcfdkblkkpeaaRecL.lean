/- Contracts of the statements' own Cut and fixed, and of Zero: a record with its texts cut, and that the calls whose answers the document fixes have these answers. -/
import Derived.Test.YtgpcfdkblkkpeaaRecN
namespace Go.Proofs.Ytgpcfdkblkkpeaa
open Go.RowKit Go.Lib Wd Cr Ck
set_option linter.unusedVariables false

def zeroTo (k : Nat) : ByteArray := ⟨Array.replicate k (0 : UInt8)⟩
theorem zeroTo_succ (k : Nat) : zeroTo k ++ ⟨#[0]⟩ = zeroTo (k + 1) := by
  apply ByteArray.ext
  rw [ByteArray.data_append]
  show Array.replicate k (0 : UInt8) ++ #[0] = Array.replicate (k + 1) 0
  rw [Array.replicate_succ]
  rfl
theorem zeroTo_size (k : Nat) : (zeroTo k).size = k := by simp [zeroTo, ByteArray.size]

set_option maxHeartbeats 1000000 in
theorem zero_any (w : World) : Calls Try.prog 20 #[] w fun e w' => e = .returned (.string (zeroTo 128)) ∧ w = w' := by
  go_enter Try.func20, Try.ntmps20
  go_wp2
  go_loop [1, 2] (fun t i => ∃ k : Nat, k ≤ 128 ∧ i = .int .i64 k ∧ t = .string (zeroTo k)) (fun _ i => 128 - (Lib.intOf i).toNat)
  case atStart => exact ⟨0, by omega, rfl, rfl⟩
  case round =>
    obtain ⟨k, hk, rfl, rfl⟩ := hrel
    have hz := zeroTo_size k
    have hzs := zeroTo_succ k
    by_cases hlt : k < 128
    · have hlz : (k : Int) < 128 := by omega
      go_wp2
      go_round
      case rel => exact ⟨k + 1, by omega, by go_num, by rw [← hzs]⟩
      case measure => simp [Lib.intOf]; omega
    · obtain rfl : k = 128 := by omega
      clear hz hzs
      go_wp2
      go_ret
      exact ⟨rfl, rfl⟩

/-- The first bytes of a text, at most 80. -/
def cut80 (s : ByteArray) : ByteArray := s.extract 0 (min (s.size : Int) 80).toNat
theorem cut80_size (s : ByteArray) : (cut80 s).size ≤ 80 := by
  rw [Go.Lib.size_eq, cut80, ext_take, List.length_take]; omega

set_option maxHeartbeats 4000000 in
set_option maxRecDepth 100000 in
theorem lawcut_any (l e k v d : Int) (i a : ByteArray) (w : World) (hi : i.size ≤ maxLen) (ha : a.size ≤ maxLen) :
    Calls Try.prog 9 #[.agg #[.int .u64 l, .int .u32 e, .int .i64 k, .int .u64 v, .int .u64 d, .string i, .string a]] w fun e' w' => e' = .returned (.agg #[.int .u64 l, .int .u32 e, .int .i64 k, .int .u64 v, .int .u64 d, .string (cut80 i), .string (cut80 a)]) ∧ Below w.heap.size w w' := by
  unfold maxLen at hi ha
  have E1 := Lib.hid (show i.extract 0 (min (i.size : Int) 80).toNat = cut80 i from rfl)
  have E2 := Lib.hid (show a.extract 0 (min (a.size : Int) 80).toNat = cut80 a from rfl)
  generalize cut80 i = i2 at *
  generalize cut80 a = a2 at *
  go_enter Try.func9, Try.ntmps9
  go_wp2_with fail
  rw [E1.out, E2.out]
  have L := layR l e k v d i2 a2 25 (w.alloc (.cells #[.int .u64 l, .int .u32 e, .int .i64 k, .int .u64 v, .int .u64 d, .string i2, .string a2] 25))
  rw [show (w.alloc (.cells #[.int .u64 l, .int .u32 e, .int .i64 k, .int .u64 v, .int .u64 d, .string i2, .string a2] 25)).heap.size = w.heap.size + 1 by simp] at L
  exact bodyPost_ret (res_rec1 rfl _ _ (w.heap.size + 1) rfl L) rfl ⟨rfl, ((Below.refl _ _).alloc (Nat.le_refl _) _).alloc (by simp) _⟩

def fixR : Rec := ⟨1, 1, 1, 1, 9, (⟨#[97]⟩ : ByteArray).data.toList, (⟨#[118]⟩ : ByteArray).data.toList⟩
theorem fix_ok : okR fixR = true := by decide
theorem fix_fits : Fits fixR := by constructor <;> decide
theorem fix_byte (S : ByteArray) (HS : secL fixR = S.data.toList) (j x : Nat) (hx : byteAt (secL fixR) j = x) (h : j < S.size) : (S[j]'h).toNat = x := by
  rw [R1.byte_get, ← HS, hx]

theorem notlen {l : List UInt8} (h : l.length ≠ 128) : isSec l = false := by
  cases e : isSec l
  · rfl
  · exact absurd (isSec_len e) h
theorem notzero {l : List UInt8} (h : (cutR l).l = 0) : isSec l = false := by
  cases e : isSec l
  · rfl
  · exact absurd h (okR_l ((isSec_iff l).1 e).1)

end Go.Proofs.Ytgpcfdkblkkpeaa
