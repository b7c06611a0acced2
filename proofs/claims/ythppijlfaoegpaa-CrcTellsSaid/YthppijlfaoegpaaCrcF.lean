/- The fixed calls of the statements about package crc, and the statements' own call for zeros: what each returns, and that nothing that was there is changed. -/
import Derived.Test.YthppijlfaoegpaaCrcC
import Derived.Lib.Strings
namespace Go.Proofs.Ythppijlfaoegpaa
open Go.RowKit Go.Lib

set_option maxHeartbeats 1000000 in
theorem fixed_any (w : World) : Calls Try.prog 16 #[] w fun e w' => e = .returned (.bool true) ∧ Below w.heap.size w w' := by
  go_enter Try.func16, Try.ntmps16
  go_wp2_with fail
  refine (sum_ge w 3421780262 _ _ (by decide) (by decide +kernel) (Below.refl _ _)).mono ?_
  rintro e w1 ⟨rfl, h1⟩
  go_wp2_with fail
  refine (sum_ge w 0 _ _ (by decide) (by decide +kernel) h1).mono ?_
  rintro e w2 ⟨rfl, h2⟩
  go_wp2_with fail
  refine (sum_ge w 3421846044 _ _ (by decide) (by decide +kernel) h2).mono ?_
  rintro e w3 ⟨rfl, h3⟩
  go_wp2_with fail
  refine (more_ge w 3421846044 3421780262 _ _ (by decide) (by decide) (by decide +kernel) h3).mono ?_
  rintro e w4 ⟨rfl, h4⟩
  go_wp2_with fail
  refine (sum_ge w 3904355907 _ _ (by decide) (by decide +kernel) h4).mono ?_
  rintro e w5 ⟨rfl, h5⟩
  go_wp2_with fail
  refine (zeros_ge w 3904355907 3058989061 _ _ (by decide) (by decide +kernel) h5).mono ?_
  rintro e w6 ⟨rfl, h6⟩
  go_wp2_with fail
  refine (sum_ge w 3058989061 _ _ (by decide) (by decide +kernel) h6).mono ?_
  rintro e w7 ⟨rfl, h7⟩
  go_wp2_with fail
  refine (zeros_ge w 7 7 _ _ (by decide) (by decide +kernel) h7).mono ?_
  rintro e w8 ⟨rfl, h8⟩
  go_wp2_with fail
  go_ret
  exact ⟨rfl, h8⟩

theorem fixed_ge (w0 w : World) (hw : Below w0.heap.size w0 w) : Calls Try.prog 16 #[] w fun e w' => e = .returned (.bool true) ∧ Below w0.heap.size w0 w' :=
  (fixed_any w).mono fun _ _ ⟨he, hb⟩ => ⟨he, Ge.trans hw hb⟩

/-- So many bytes 0. -/
def zstr (n : Nat) : ByteArray := ⟨(List.replicate n (0 : UInt8)).toArray⟩
theorem zstr_list (n : Nat) : (zstr n).data.toList = List.replicate n 0 := by simp [zstr]
theorem zstr_size (n : Nat) : (zstr n).size = n := by rw [size_eq, zstr_list, List.length_replicate]
theorem zstr_snoc (n : Nat) : zstr n ++ (⟨#[0]⟩ : ByteArray) = zstr (n + 1) := by
  apply ByteArray.ext
  apply Array.toList_inj.1
  rw [ByteArray.data_append, Array.toList_append, zstr_list, zstr_list, List.replicate_succ']

set_option maxHeartbeats 1000000 in
theorem lawzeros_any (n : Nat) (w : World) (hn : n ≤ 300) : Calls Try.prog 17 #[.int .i64 n] w fun e w' => e = .returned (.string (zstr n)) ∧ w = w' := by
  go_enter Try.func17, Try.ntmps17
  go_wp2
  go_loop [3, 4] (fun z i => ∃ k : Nat, k ≤ n ∧ i = .int .i64 k ∧ z = .string (zstr k)) (fun _ i => n - (intOf i).toNat)
  case atStart => exact ⟨0, Nat.zero_le _, rfl, rfl⟩
  case round =>
    obtain ⟨k, hk, rfl, rfl⟩ := hrel
    have hz := zstr_size k
    by_cases hlt : k < n
    · have Z := Lib.hid (zstr_snoc k)
      go_wp2
      go_round
      case rel => exact ⟨k + 1, by omega, by go_num, by rw [Z.out]⟩
      case measure => simp [intOf]; omega
    · obtain rfl : n = k := by omega
      go_wp2
      go_ret
      exact ⟨rfl, rfl⟩

end Go.Proofs.Ythppijlfaoegpaa
