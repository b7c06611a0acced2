/- Contracts of the document's own answers for package crc (lodgerref02: one, More, Sum, Zeros): what each returns, and that memory stays as it was. -/
import Derived.Test.YthppijlfaoegpaaCrcF
namespace Go.Proofs.Ythppijlfaoegpaa
open Go.RowKit Go.Lib

theorem val_int {k : IntKind} {a b : Int} (h : a = b) : Value.int k a = .int k b := by rw [h]

theorem step_int (k x : Nat) (h : Crc.steps k x < 4294967296) :
    ((Crc.steps (k + 1) x : Nat) : Int) = if ((Crc.steps k x : Nat) : Int) % 2 = 1 then bits .xor .u32 (((Crc.steps k x : Nat) : Int) / 2) 3988292384 else ((Crc.steps k x : Nat) : Int) / 2 := by
  rw [Crc.steps_succ]
  by_cases ho : Crc.steps k x % 2 = 1
  · rw [if_pos (by omega), Crc.step_odd ho, ← u32_xor_nat (Crc.steps k x / 2) 3988292384 (by omega) (by omega)]; rfl
  · rw [if_neg (by omega), Crc.step_ev ho]; rfl

set_option maxHeartbeats 1000000 in
theorem refone_any (r c : Nat) (w : World) (hr : r < 4294967296) (hc : c < 256) :
    Calls Try.prog 20 #[.int .u32 r, .int .u8 c] w fun e w' => e = .returned (.int .u32 (Crc.one r c : Nat)) ∧ w = w' := by
  have X := u32_xor_nat r c hr (by omega)
  have hx := Crc.xor_lt hr (show c < 4294967296 by omega)
  have O := Lib.hid (show Crc.one r c = Crc.steps 8 (r ^^^ c) from rfl)
  have hc' : (c : Int) < 256 := by omega
  generalize Crc.one r c = o at *
  generalize r ^^^ c = x at *
  go_enter Try.func20, Try.ntmps20
  go_wp2
  go_loop [0, 5] (fun r i => ∃ k : Nat, k ≤ 8 ∧ i = .int .i64 k ∧ r = .int .u32 ((Crc.steps k x : Nat) : Int)) (fun _ i => 8 - (intOf i).toNat)
  case atStart => exact ⟨0, Nat.zero_le _, rfl, rfl⟩
  case round =>
    obtain ⟨k, hk, rfl, rfl⟩ := hrel
    have hb : Crc.steps k x < 4294967296 := Crc.steps_lt hx
    by_cases hlt : k < 8
    · have E := Lib.hid (step_int k x hb)
      have hY0 : 0 ≤ ((Crc.steps k x : Nat) : Int) := by omega
      have hY1 : ((Crc.steps k x : Nat) : Int) < 4294967296 := by omega
      clear hb hx hr X hc hc' O
      generalize ((Crc.steps k x : Nat) : Int) = Y at *
      by_cases ho : Y % 2 = 1
      · go_wp2_with fail
        go_round
        case rel => exact ⟨k + 1, by omega, by go_num, val_int (by rw [E.out, if_pos ho])⟩
        case measure => simp [intOf]; omega
      · have e : Y % 2 = 0 := by omega
        go_wp2
        go_round
        case rel => exact ⟨k + 1, by omega, by go_num, val_int (by rw [E.out, if_neg ho])⟩
        case measure => simp [intOf]; omega
    · obtain rfl : k = 8 := by omega
      go_wp2
      go_ret
      exact ⟨ret_int (by rw [O.out]), rfl⟩

theorem xorF (a : Nat) (h : a < 4294967296) : bits .xor .u32 (a : Int) 4294967295 = ((Crc.neg a : Nat) : Int) := u32_xor_nat a 4294967295 h (by omega)

set_option maxHeartbeats 1000000 in
theorem refmore_any (a : Nat) (s : ByteArray) (w : World) (ha : a < 4294967296) (hs : s.size ≤ maxLen) :
    Calls Try.prog 13 #[.int .u32 a, .string s] w fun e w' => e = .returned (.int .u32 (Crc.more a s.data.toList : Nat)) ∧ w = w' := by
  unfold maxLen at hs
  have X := xorF a ha
  have hn := Crc.neg_lt ha
  have D := Lib.hid (show Crc.more a s.data.toList = Crc.neg (Crc.run (Crc.neg a) s.data.toList) from rfl)
  generalize Crc.more a s.data.toList = m at *
  generalize Crc.neg a = n at *
  go_enter Try.func13, Try.ntmps13
  go_wp2
  go_loop [5, 6] (fun r i => ∃ k : Nat, k ≤ s.size ∧ i = .int .i64 k ∧ r = .int .u32 ((Crc.run n (s.data.toList.take k) : Nat) : Int)) (fun _ i => s.size - (intOf i).toNat)
  case atStart => exact ⟨0, Nat.zero_le _, rfl, by rw [List.take_zero, Crc.run_nil]⟩
  case round =>
    obtain ⟨k, hk, rfl, rfl⟩ := hrel
    have hr := Crc.run_lt (s.data.toList.take k) hn
    by_cases hlt : k < s.size
    · have E := Lib.hid (show Crc.run n (s.data.toList.take (k + 1)) = Crc.one (Crc.run n (s.data.toList.take k)) s[k].toNat by rw [take_snoc s k hlt, Crc.run_snoc])
      have hc := UInt8.toNat_lt s[k]
      generalize Crc.run n (s.data.toList.take k) = r at *
      go_wp2_with (go_at_call 20; refine (refone_any _ _ _ hr hc).mono ?_; rintro e w' ⟨rfl, rfl⟩)
      go_round
      case rel => exact ⟨k + 1, by omega, by go_num, by rw [E.out]⟩
      case measure => simp [intOf]; omega
    · obtain rfl : s.size = k := by omega
      go_wp2
      go_ret
      exact ⟨ret_int (by rw [xorF _ hr, D.out, List.take_of_length_le (by simp)]), rfl⟩

theorem refsum_any (s : ByteArray) (w : World) (hs : s.size ≤ maxLen) :
    Calls Try.prog 11 #[.string s] w fun e w' => e = .returned (.int .u32 (Crc.more 0 s.data.toList : Nat)) ∧ w = w' := by
  have C := Lib.hid (fun w => refmore_any 0 s w (by omega) hs)
  go_enter Try.func11, Try.ntmps11
  go_wp2_with fail
  refine (C.out _).mono ?_
  rintro e w1 ⟨rfl, rfl⟩
  go_wp2
  go_ret
  exact ⟨rfl, rfl⟩

theorem zn_lo {c : Int} (h : c < 0) : zn c = 0 := by unfold zn; rw [if_pos h]
theorem zn_in {c : Int} (h : 0 ≤ c) (h' : c ≤ 100000) : (zn c : Int) = c := by
  unfold zn; rw [if_neg (by omega), if_neg (by omega)]; omega

set_option maxHeartbeats 1000000 in
/-- lodgerref02.Zeros where n is at most 100000. -/
theorem refzeros_any (a : Nat) (c : Int) (w : World) (ha : a < 4294967296) (hc : c ≤ 100000) :
    Calls Try.prog 15 #[.int .u32 a, .int .i64 c] w fun e w' => e = .returned (.int .u32 (Crc.more a (List.replicate (zn c) 0) : Nat)) ∧ w = w' := by
  have X := xorF a ha
  have hn := Crc.neg_lt ha
  have Z := Lib.hid (show (c < 0 → zn c = 0) ∧ (0 ≤ c → (zn c : Int) = c) from ⟨zn_lo, fun h => zn_in h hc⟩)
  generalize zn c = z at *
  have D := Lib.hid (show Crc.more a (List.replicate z 0) = Crc.neg (Crc.run (Crc.neg a) (List.replicate z 0)) from rfl)
  generalize Crc.more a (List.replicate z 0) = m at *
  generalize Crc.neg a = n at *
  go_enter Try.func15, Try.ntmps15
  go_wp2
  go_loop [5, 6] (fun r i => ∃ k : Nat, k ≤ z ∧ i = .int .i64 k ∧ r = .int .u32 ((Crc.run n (List.replicate k 0) : Nat) : Int)) (fun _ i => z - (intOf i).toNat)
  case atStart => exact ⟨0, Nat.zero_le _, rfl, by rw [List.replicate_zero, Crc.run_nil]⟩
  case round =>
    obtain ⟨k, hk, rfl, rfl⟩ := hrel
    have hr := Crc.run_lt (List.replicate k 0) hn
    have z1 := Z.out.1
    have z2 := Z.out.2
    by_cases hlt : k < z
    · have E := Lib.hid (show Crc.run n (List.replicate (k + 1) 0) = Crc.one (Crc.run n (List.replicate k 0)) 0 by rw [List.replicate_succ', Crc.run_snoc]; rfl)
      have t1 : (k : Int) < c := by omega
      have t2 : (k : Int) < 100000 := by omega
      have z0 : k + 1 ≤ z := by omega
      clear z1 z2
      generalize Crc.run n (List.replicate k 0) = r at *
      go_wp2_with (go_at_call 20; refine (refone_any _ 0 _ hr (by omega)).mono ?_; rintro e w' ⟨rfl, rfl⟩)
      go_round
      case rel => exact ⟨k + 1, z0, by go_num, by rw [E.out]⟩
      case measure => simp [intOf]; omega
    · obtain rfl : z = k := by omega
      have t1 : ¬ (z : Int) < c := by omega
      clear z1 z2
      go_wp2
      go_ret
      exact ⟨ret_int (by rw [xorF _ hr, D.out]), rfl⟩

end Go.Proofs.Ythppijlfaoegpaa
