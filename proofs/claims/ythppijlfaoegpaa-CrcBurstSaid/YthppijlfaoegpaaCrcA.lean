/- Contracts of the small calls of package crc (halved, next, within): what each returns, and that memory stays as it was. -/
import Derived.Test.YthppijlfaoegpaaRows
import Derived.Test.YthppijlfaoegpaaCrcM
import Derived.WalkKit
import Derived.WalkSpells
import Derived.WalkLawsBesides
import Derived.Laws.BitsAllLaws
import Derived.Lib.Hide
namespace Go.Proofs.Ythppijlfaoegpaa
open Go.RowKit Go.Lib

theorem ret_int {k : IntKind} {a b : Int} (h : a = b) : Ending.returned (.int k a) = .returned (.int k b) := by rw [h]

theorem and1 (r : Nat) (h : r < 4294967296) : bits .and .u32 (r : Int) 1 = ((r % 2 : Nat) : Int) := by
  have := u32_and_nat r 1 h (by omega)
  rw [Nat.and_one_is_mod] at this
  exact this

theorem halved_any (r : Nat) (w : World) (h : r < 4294967296) :
    Calls Try.prog 22 #[.int .u32 r] w fun e w' => e = .returned (.int .u32 (Crc.step r : Nat)) ∧ w = w' := by
  have ha := and1 r h
  by_cases ho : r % 2 = 1
  · have e : ((r % 2 : Nat) : Int) = 1 := by omega
    rw [e] at ha
    have X := Lib.hid (u32_xor_nat (r / 2) 3988292384 (by omega) (by omega))
    rw [Crc.step_odd ho]
    clear e ho
    go_enter Try.func22, Try.ntmps22
    go_wp2
    go_ret
    exact ⟨ret_int (by rw [← X.out]; rfl), rfl⟩
  · have e : ((r % 2 : Nat) : Int) = 0 := by omega
    rw [e] at ha
    rw [Crc.step_ev ho]
    clear e ho
    go_enter Try.func22, Try.ntmps22
    go_wp2
    go_ret
    exact ⟨rfl, rfl⟩

/-- The table of the first k bytes' rests; zeros behind. -/
def tab (k : Nat) : Array Value := ((List.range 256).map fun i => if i < k then Value.int .u32 ((Crc.steps 8 i : Nat) : Int) else .int .u32 0).toArray
theorem tab_size (k : Nat) : (tab k).size = 256 := by simp [tab]
theorem tab_get (k i : Nat) (h : i < 256) : (tab k)[i]? = some (if i < k then Value.int .u32 ((Crc.steps 8 i : Nat) : Int) else .int .u32 0) := by
  unfold tab
  rw [List.getElem?_toArray, List.getElem?_map, List.getElem?_range h]
  rfl
theorem tab_zero : Array.replicate 256 (Value.int .u32 0) = tab 0 := by
  apply Array.ext_getElem?
  intro i
  by_cases h : i < 256
  · rw [tab_get 0 i h, if_neg (by omega), Array.getElem?_replicate, if_pos h]
  · rw [Array.getElem?_eq_none (by simp; omega), Array.getElem?_eq_none (by rw [tab_size]; omega)]
theorem tab_set (k : Nat) (hk : k < 256) : (tab k).setIfInBounds k (.int .u32 ((Crc.steps 8 k : Nat) : Int)) = tab (k + 1) := by
  apply Array.ext_getElem?
  intro i
  rw [Array.getElem?_setIfInBounds]
  by_cases h : i < 256
  · rw [tab_get (k + 1) i h, tab_get k i h]
    by_cases e : k = i
    · subst e; rw [if_pos rfl, if_pos (by rw [tab_size]; exact hk), if_pos (by omega)]
    · rw [if_neg e]
      by_cases l : i < k
      · rw [if_pos l, if_pos (by omega)]
      · rw [if_neg l, if_neg (by omega)]
  · rw [Array.getElem?_eq_none (show (tab (k + 1)).size ≤ i by rw [tab_size]; omega), if_neg (by omega), Array.getElem?_eq_none (by rw [tab_size]; omega)]
theorem tab_one (k : Nat) : (tab k).all (·.oneCell') = true := by
  rw [Array.all_eq_true]
  intro i h
  rw [tab_size] at h
  have e := tab_get k i h
  rw [Array.getElem?_eq_getElem (by rw [tab_size]; exact h)] at e
  rw [Option.some.inj e]
  split <;> rfl

/-- A table lies whole at block b. -/
def Lies (w : World) (b : Nat) : Prop := ∀ i, i < 256 → w.cell? ⟨b, i, none⟩ = some (.int .u32 ((Crc.steps 8 i : Nat) : Int))

set_option maxRecDepth 1000000 in
theorem next_at (b r c x y z : Nat) (w : World) (hx : (x : Int) < 256) (cell : w.cell? ⟨b, x, none⟩ = some (.int .u32 (y : Int)))
    (X8 : bits .xor .u8 ((r : Int) % 256) (c : Int) = (x : Int)) (X : Hid (bits .xor .u32 ((r : Int) / 256) (y : Int) = (z : Int))) :
    Calls Try.prog 19 #[.pointer (some ⟨b, 0, none⟩), .int .u32 r, .int .u8 c] w fun e w' => e = .returned (.int .u32 z) ∧ w = w' := by
  go_enter Try.func19, Try.ntmps19
  go_wp2
  go_ret
  exact ⟨ret_int X.out, rfl⟩

theorem next_any (b r : Nat) (c : Nat) (w : World) (hr : r < 4294967296) (hc : c < 256) (hl : Lies w b) :
    Calls Try.prog 19 #[.pointer (some ⟨b, 0, none⟩), .int .u32 r, .int .u8 c] w fun e w' => e = .returned (.int .u32 (Crc.one r c : Nat)) ∧ w = w' := by
  have hx : r % 256 ^^^ c < 256 := Nat.xor_lt_two_pow (n := 8) (by omega) hc
  have hs : Crc.steps 8 (r % 256 ^^^ c) < 4294967296 := Crc.steps_lt (by omega)
  have X := u32_xor_nat (r / 256) (Crc.steps 8 (r % 256 ^^^ c)) (by omega) hs
  rw [Crc.one_table] at X
  exact next_at b r c _ _ _ w (by omega) (hl _ hx) (u8_xor_nat (r % 256) c (by omega) hc) (Lib.hid X)

/-- How many zeros n counts as. -/
def zn (n : Int) : Nat := if n < 0 then 0 else if n > 100000 then 100000 else n.toNat
theorem zn_le (n : Int) : zn n ≤ 100000 := by unfold zn; split <;> (try split) <;> omega

theorem within_any (n : Int) (w : World) :
    Calls Try.prog 21 #[.int .i64 n] w fun e w' => e = .returned (.int .i64 (zn n : Nat)) ∧ w = w' := by
  unfold zn
  by_cases h : n < 0
  · rw [if_pos h]
    go_enter Try.func21, Try.ntmps21
    go_wp2
    go_ret
    exact ⟨rfl, rfl⟩
  rw [if_neg h]
  by_cases h' : n > 100000
  · rw [if_pos h']
    go_enter Try.func21, Try.ntmps21
    go_wp2
    go_ret
    exact ⟨rfl, rfl⟩
  · rw [if_neg h']
    have h'' : ¬ 100000 < n := by omega
    obtain ⟨m, rfl⟩ := Int.eq_ofNat_of_zero_le (show 0 ≤ n by omega)
    go_enter Try.func21, Try.ntmps21
    go_wp2
    go_ret
    exact ⟨rfl, rfl⟩

end Go.Proofs.Ythppijlfaoegpaa
