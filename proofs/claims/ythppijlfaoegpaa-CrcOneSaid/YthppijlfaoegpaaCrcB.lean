/- The contract of crc.rests: it returns the table of all bytes' rests, and changes nothing that was there. -/
import Derived.Test.YthppijlfaoegpaaCrcA
import Derived.Laws.ResultCell
import Derived.Deep.LoopGhost
import Derived.Deep.WholeRow
import Derived.LoopN
namespace Go.Proofs.Ythppijlfaoegpaa
open Go.RowKit Go.Lib

theorem zero_tab : (∀ w, (zeroValue 38).run Try.prog w = .ok (.agg (Array.replicate 256 (.int .u32 0))) w) ∧ (Try.prog.info? 38).map (·.size) = some 256 :=
  zero_of_info (by kernel_rfl)

theorem below_setRow {B : Nat} {a w : World} (h : Below B a w) {g : Nat} (hg : B ≤ g) (cs : Array Value) : Below B a (w.setRow g cs) :=
  ⟨h.os, h.tape, h.output, by rw [size_setRow]; exact h.size, fun k hk => (setRow_other w g k cs (by omega)).trans (h.block k hk)⟩

set_option maxHeartbeats 4000000 in
set_option maxRecDepth 1000000 in
theorem rests_any (w : World) :
    Calls Try.prog 18 #[] w fun e w' => e = .returned (.agg (tab 256)) ∧ Below w.heap.size w w' := by
  obtain ⟨hv, hi⟩ := zero_tab
  rw [tab_zero] at hv
  have HI := Lib.hid hi
  clear hi
  go_enter Try.func18, Try.ntmps18
  go_wp2
  go_loopg [4] 256 (fun g s4 wx => ∃ i : Nat, i + g = 256 ∧ s4 = .int .i64 i ∧ wx = (w.alloc (.cells (tab 0) 38)).alloc (.cells (tab i) 38))
  case atStart => exact ⟨0, by omega, rfl, rfl⟩
  case round =>
    obtain ⟨i, hig, rfl, rfl⟩ := hrel
    cases gk with
    | zero =>
      obtain rfl : i = 256 := by omega
      have hin : (Try.prog.info? 38).map (·.size) = some (tab 256).size := by rw [tab_size]; exact HI.out
      go_wp2_with (first | (with_reducible refine wpList_load_row rfl 38 (.tmp 1) rfl (w.heap.size + 1) rfl 38 (tab 256) (0, 0) _ (heap_alloc2_new w _ _) Try.underlying38 rfl hin ?_) | (with_reducible refine wpList_store_row rfl 38 (.tmp 0) (.tmp 18) rfl w.heap.size (tab 256) rfl rfl 38 (tab 0) (heap_alloc2_old w _ _) hin (by rw [tab_size, tab_size]) (tab_one 256) ?_))
      have hh := setRow_heap ((w.alloc (.cells (tab 0) 38)).alloc (.cells (tab 256) 38)) w.heap.size (tab 0) (tab 256) 38 _ (heap_alloc2_old w _ _)
      refine bodyPost_ret (v := .agg (tab 256)) (results_cell_row (by rfl) _ _ w.heap.size _ (tab 256) _ _ (by rfl) hh Try.underlying38 rfl hin) rfl ⟨rfl, ?_⟩
      exact below_setRow (((Below.refl _ _).alloc (Nat.le_refl _) _).alloc (by simp) _) (Nat.le_refl _) _
    | succ g =>
      have hi : i < 256 := by omega
      have hiz : (i : Int) < 256 := by omega
      have hs := tab_size i
      go_wp2_with fail
      go_loop [3, 9] (fun r j => ∃ k : Nat, k ≤ 8 ∧ j = .int .i64 k ∧ r = .int .u32 ((Crc.steps k i : Nat) : Int)) (fun _ j => 8 - (intOf j).toNat)
      case atStart => exact ⟨0, by omega, rfl, rfl⟩
      case round =>
        obtain ⟨k, hk, rfl, rfl⟩ := hrel
        have hb : Crc.steps k i < 4294967296 := Crc.steps_lt (by omega)
        by_cases hlt : k < 8
        · go_wp2_with (go_at_call 22; refine (halved_any _ _ hb).mono ?_; rintro e w' ⟨rfl, rfl⟩)
          go_round
          case rel => exact ⟨k + 1, by omega, by go_num, by rw [Crc.steps_succ]⟩
          case measure => simp [intOf]; omega
        · obtain rfl : k = 8 := by omega
          go_wp2
          rw [tab_set i hi]
          go_roundg g
          case measure => omega
          case rel => exact ⟨i + 1, by omega, by go_num, rfl⟩

end Go.Proofs.Ythppijlfaoegpaa
