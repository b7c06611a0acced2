/- Contracts of crc.More, crc.Zeros and crc.Sum, for every sum below 2^32, every string and every count: the sum that each returns, and that nothing that was there is changed. -/
import Derived.Test.YthppijlfaoegpaaCrcB
namespace Go.Proofs.Ythppijlfaoegpaa
open Go.RowKit Go.Lib

theorem lies_tab (w : World) (t : TypeId) : Lies (w.alloc (.cells (tab 256) t)) w.heap.size := by
  intro i h
  rw [cell_of_row _ _ i (tab 256) t (0, 0) (heap_alloc_new w _), tab_get 256 i h, if_pos h]

theorem not_u32 (a : Nat) (h : a < 4294967296) : bits .xor .u32 IntKind.u32.max (a : Int) = ((Crc.neg a : Nat) : Int) := by
  have e := u32_xor_nat 4294967295 a (by omega) h
  rw [Nat.xor_comm] at e
  exact e

theorem take_snoc (s : ByteArray) (k : Nat) (h : k < s.size) : s.data.toList.take (k + 1) = s.data.toList.take k ++ [s[k]] := by
  rw [List.take_succ_eq_append_getElem (by simpa using h)]; rfl

set_option maxHeartbeats 4000000 in
set_option maxRecDepth 1000000 in
theorem more_any (a : Nat) (s : ByteArray) (w : World) (ha : a < 4294967296) (hs : s.size ≤ maxLen) :
    Calls Try.prog 12 #[.int .u32 a, .string s] w fun e w' => e = .returned (.int .u32 (Crc.more a s.data.toList : Nat)) ∧ Below w.heap.size w w' := by
  unfold maxLen at hs
  obtain ⟨hv, hi⟩ := zero_tab
  rw [tab_zero] at hv
  have HI := Lib.hid (show (Try.prog.info? 38).map (·.size) = some (tab 256).size by rw [tab_size]; exact hi)
  clear hi
  go_enter Try.func12, Try.ntmps12
  go_wp2_with fail
  refine (rests_any _).mono ?_
  rintro e w1 ⟨rfl, hb⟩
  go_wp2_with (with_reducible refine wpList_store_row rfl 38 (.tmp 5) (.tmp 8) rfl w1.heap.size (tab 256) rfl rfl 38 (tab 0) (heap_alloc_new w1 _) HI.out (by rw [tab_size, tab_size]) (tab_one 256) ?_)
  rw [World.setRow_alloc_new]
  rw [not_u32 a ha]
  have hn := Crc.neg_lt ha
  have hl := Lib.hid (lies_tab w1 38)
  have HB := Lib.hid ((hb.trans (((Below.refl _ _).alloc (Nat.le_refl _) _).mono hb.size)) : Below w.heap.size w (w1.alloc (.cells (tab 256) 38)))
  clear hb hv HI
  generalize w1.alloc (.cells (tab 256) 38) = w2 at *
  generalize w1.heap.size = b at *
  have D := Lib.hid (show Crc.more a s.data.toList = Crc.neg (Crc.run (Crc.neg a) s.data.toList) from rfl)
  generalize Crc.neg a = n at *
  go_loop [6, 13] (fun r i => ∃ k : Nat, k ≤ s.size ∧ i = .int .i64 k ∧ r = .int .u32 ((Crc.run n (s.data.toList.take k) : Nat) : Int)) (fun _ i => s.size - (intOf i).toNat)
  case atStart => exact ⟨0, Nat.zero_le _, rfl, by rw [List.take_zero, Crc.run_nil]⟩
  case round =>
    obtain ⟨k, hk, rfl, rfl⟩ := hrel
    have hr := Crc.run_lt (s.data.toList.take k) hn
    by_cases hlt : k < s.size
    · have E := Lib.hid (show Crc.run n (s.data.toList.take (k + 1)) = Crc.one (Crc.run n (s.data.toList.take k)) s[k].toNat by rw [take_snoc s k hlt, Crc.run_snoc])
      have hc := UInt8.toNat_lt s[k]
      generalize Crc.run n (s.data.toList.take k) = r at *
      go_wp2_with (go_at_call 19; refine (next_any _ _ _ _ hr hc hl.out).mono ?_; rintro e w' ⟨rfl, rfl⟩)
      go_round
      case rel => exact ⟨k + 1, by omega, by go_num, by rw [E.out]⟩
      case measure => simp [intOf]; omega
    · obtain rfl : s.size = k := by omega
      go_wp2
      go_ret
      exact ⟨ret_int (by rw [not_u32 _ hr, D.out, List.take_of_length_le (by simp)]), HB.out⟩

set_option maxHeartbeats 4000000 in
set_option maxRecDepth 1000000 in
theorem zeros_any (a : Nat) (c : Int) (w : World) (ha : a < 4294967296) :
    Calls Try.prog 14 #[.int .u32 a, .int .i64 c] w fun e w' => e = .returned (.int .u32 (Crc.more a (List.replicate (zn c) 0) : Nat)) ∧ Below w.heap.size w w' := by
  have hz := zn_le c
  obtain ⟨hv, hi⟩ := zero_tab
  rw [tab_zero] at hv
  have HI := Lib.hid (show (Try.prog.info? 38).map (·.size) = some (tab 256).size by rw [tab_size]; exact hi)
  have HC := Lib.hid (fun w => within_any c w)
  clear hi
  generalize zn c = z at *
  go_enter Try.func14, Try.ntmps14
  go_wp2_with fail
  refine (rests_any _).mono ?_
  rintro e w1 ⟨rfl, hb⟩
  go_wp2_with (first | (with_reducible refine wpList_store_row rfl 38 (.tmp 5) (.tmp 7) rfl w1.heap.size (tab 256) rfl rfl 38 (tab 0) (heap_alloc_new w1 _) HI.out (by rw [tab_size, tab_size]) (tab_one 256) ?_) | (go_at_call 21; refine (HC.out _).mono ?_; rintro e w' ⟨rfl, rfl⟩))
  rw [World.setRow_alloc_new]
  rw [not_u32 a ha]
  have hn := Crc.neg_lt ha
  have hl := Lib.hid (lies_tab w1 38)
  have HB := Lib.hid ((hb.trans (((Below.refl _ _).alloc (Nat.le_refl _) _).mono hb.size)) : Below w.heap.size w (w1.alloc (.cells (tab 256) 38)))
  clear hb hv HI HC
  generalize w1.alloc (.cells (tab 256) 38) = w2 at *
  generalize w1.heap.size = b at *
  have D := Lib.hid (show Crc.more a (List.replicate z 0) = Crc.neg (Crc.run (Crc.neg a) (List.replicate z 0)) from rfl)
  generalize Crc.neg a = n at *
  go_loop [6, 12] (fun r i => ∃ k : Nat, k ≤ z ∧ i = .int .i64 k ∧ r = .int .u32 ((Crc.run n (List.replicate k 0) : Nat) : Int)) (fun _ i => z - (intOf i).toNat)
  case atStart => exact ⟨0, Nat.zero_le _, rfl, by rw [List.replicate_zero, Crc.run_nil]⟩
  case round =>
    obtain ⟨k, hk, rfl, rfl⟩ := hrel
    have hr := Crc.run_lt (List.replicate k 0) hn
    by_cases hlt : k < z
    · have E := Lib.hid (show Crc.run n (List.replicate (k + 1) 0) = Crc.one (Crc.run n (List.replicate k 0)) 0 by rw [List.replicate_succ', Crc.run_snoc]; rfl)
      generalize Crc.run n (List.replicate k 0) = r at *
      go_wp2_with (go_at_call 19; refine (next_any _ _ 0 _ hr (by omega) hl.out).mono ?_; rintro e w' ⟨rfl, rfl⟩)
      go_round
      case rel => exact ⟨k + 1, by omega, by go_num, by rw [E.out]⟩
      case measure => simp [intOf]; omega
    · obtain rfl : z = k := by omega
      go_wp2
      go_ret
      exact ⟨ret_int (by rw [not_u32 _ hr, D.out]), HB.out⟩

theorem sum_any (s : ByteArray) (w : World) (hs : s.size ≤ maxLen) :
    Calls Try.prog 10 #[.string s] w fun e w' => e = .returned (.int .u32 (Crc.more 0 s.data.toList : Nat)) ∧ Below w.heap.size w w' := by
  have C := Lib.hid (fun w => more_any 0 s w (by omega) hs)
  go_enter Try.func10, Try.ntmps10
  go_wp2_with fail
  refine (C.out _).mono ?_
  rintro e w1 ⟨rfl, hb⟩
  go_wp2
  go_ret
  exact ⟨rfl, hb⟩

theorem Ge.trans {a b c : World} (h : Below a.heap.size a b) (k : Below b.heap.size b c) : Below a.heap.size a c := h.trans (k.mono h.size)

/-- The same, the answer under a name, told of a first world. -/
theorem more_ge (w0 : World) (a m : Nat) (s : ByteArray) (w : World) (ha : a < 4294967296) (hs : s.size ≤ maxLen) (hm : Crc.more a s.data.toList = m) (hw : Below w0.heap.size w0 w) :
    Calls Try.prog 12 #[.int .u32 a, .string s] w fun e w' => e = .returned (.int .u32 (m : Int)) ∧ Below w0.heap.size w0 w' := by
  subst hm
  exact (more_any a s w ha hs).mono fun _ _ ⟨he, hb⟩ => ⟨he, Ge.trans hw hb⟩
theorem sum_ge (w0 : World) (m : Nat) (s : ByteArray) (w : World) (hs : s.size ≤ maxLen) (hm : Crc.more 0 s.data.toList = m) (hw : Below w0.heap.size w0 w) :
    Calls Try.prog 10 #[.string s] w fun e w' => e = .returned (.int .u32 (m : Int)) ∧ Below w0.heap.size w0 w' := by
  subst hm
  exact (sum_any s w hs).mono fun _ _ ⟨he, hb⟩ => ⟨he, Ge.trans hw hb⟩
theorem zeros_ge (w0 : World) (a m : Nat) (c : Int) (w : World) (ha : a < 4294967296) (hm : Crc.more a (List.replicate (zn c) 0) = m) (hw : Below w0.heap.size w0 w) :
    Calls Try.prog 14 #[.int .u32 a, .int .i64 c] w fun e w' => e = .returned (.int .u32 (m : Int)) ∧ Below w0.heap.size w0 w' := by
  subst hm
  exact (zeros_any a c w ha).mono fun _ _ ⟨he, hb⟩ => ⟨he, Ge.trans hw hb⟩

end Go.Proofs.Ythppijlfaoegpaa
