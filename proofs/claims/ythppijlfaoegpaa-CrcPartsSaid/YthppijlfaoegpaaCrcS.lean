/- A string's bytes in memory of their own (what a conversion to bytes makes), written one by one, and back; and that a sum tells bytes of which at most four, one behind the other, are other ones. -/
import Derived.Test.YthppijlfaoegpaaCrcR
import Derived.Lib.ConvBytes
import Derived.Laws.BytesArg
namespace Go.Proofs.Ythppijlfaoegpaa
open Go.RowKit Go.Lib

/-- The bytes l lie at block b, and may be written. -/
structure Row (b : Nat) (l : List UInt8) (W : World) : Prop where
  cell : ∀ j, j < l.length → W.cell? ⟨b, j, none⟩ = some (.int .u8 (((l.getD j 0).toNat : Nat) : Int))
  free : ∀ j, j < l.length → W.frozen? ⟨b, j, none⟩ = false
  there : b < W.heap.size

theorem Row.set {b : Nat} {l : List UInt8} {W : World} (h : Row b l W) (i : Nat) (hi : i < l.length) (v : UInt8) : Row b (l.set i v) (W.setCell ⟨b, i, none⟩ (.int .u8 ((v.toNat : Nat) : Int))) := by
  refine ⟨fun j hj => ?_, fun j hj => ?_, by simp [World.setCell]; exact h.there⟩
  · rw [List.length_set] at hj
    by_cases e : i = j
    · subst e
      rw [World.cell?_setCell_same W _ _ (h.cell i hi), List.getD_eq_getElem?_getD, List.getElem?_set_self hi]
      rfl
    · rw [World.cell?_setCell_other W _ _ _ (by intro h; exact e (by injection h)), h.cell j hj, List.getD_eq_getElem?_getD, List.getD_eq_getElem?_getD, List.getElem?_set_ne e]
  · rw [List.length_set] at hj
    rw [World.frozen?_setCell]; exact h.free j hj

theorem Row.below {b : Nat} {l : List UInt8} {W W' : World} (h : Row b l W) (hb : Below W.heap.size W W') : Row b l W' :=
  ⟨fun j hj => (hb.cell (p := ⟨b, j, none⟩) h.there).trans (h.cell j hj), fun j hj => (hb.frozen (p := ⟨b, j, none⟩) h.there).trans (h.free j hj), Nat.lt_of_lt_of_le h.there hb.size⟩

theorem Row.drew {b : Nat} {l : List UInt8} {W : World} (h : Row b l W) : Row b l W.drew := ⟨h.cell, h.free, h.there⟩

/-- A string's bytes in new memory. -/
theorem bytes_new (W : World) (s : ByteArray) :
    ∃ (cap : Nat) (W1 : World), (convert 9 30 (.string s)).run Try.prog W = .ok (.slice (some ⟨W.heap.size, 0, none⟩) s.size cap) W1 ∧ Row W.heap.size s.data.toList W1 ∧ Below W.heap.size W W1 := by
  refine ⟨_, _, Lib.run_convert_string_bytes W 9 30 5 s Try.underlying9 Try.underlying30 Try.underlying5, ⟨fun j hj => ?_, fun j hj => ?_, ?_⟩, ⟨rfl, ?_, ?_, ?_, fun k hk => bytesWorld_at_old W _ s k hk⟩⟩
  · rw [← Go.Lib.size_eq] at hj
    exact bytesWorld_cell W _ s j hj
  · rw [← Go.Lib.size_eq] at hj
    have hn := bytesWorld_at_new W 5 s
    have hz : s.size ≤ (bytesCells W 5 s).size := by
      unfold bytesCells
      rw [Array.size_append, Array.size_map]
      exact Nat.le_add_right _ _
    simp only [World.frozen?, hn]
    simp
    omega
  · rw [bytesWorld_size]; omega
  · simp [bytesWorld, World.freeze, World.alloc, World.drew, -World.alloc_eq, -World.drew_eq]
  · simp [bytesWorld, World.freeze, World.alloc, World.drew, -World.alloc_eq, -World.drew_eq]
  · rw [bytesWorld_size]; omega

/-- And back. -/
theorem bytes_back {b cap : Nat} {l : List UInt8} {W : World} (h : Row b l W) :
    (convert 30 9 (.slice (some ⟨b, 0, none⟩) l.length cap)).run Try.prog W = .ok (.string ⟨l.toArray⟩) W := by
  have := run_convert_bytes_arg (P := Try.prog) W 30 5 Try.underlying30 Try.underlying5 b 0 l.length cap (l.map fun x => (x.toNat : Int)) (by simp) (fun i hi => by
    rw [Nat.zero_add, h.cell i hi]
    simp [List.getD, List.getElem?_map, List.getElem?_eq_getElem hi]) 9 Try.underlying9
  rw [this]
  congr 2
  unfold strOfNums
  rw [List.map_map]
  congr 2
  conv => rhs; rw [← List.map_id l]
  apply List.map_congr_left
  intro x _
  simp

/-- Bytes that are the same but for four of them, one behind the other, have the same sum just if they are the same. -/
theorem burst_eq (l l' : List UInt8) (i : Nat) (hl : l'.length = l.length) (ht : l'.take i = l.take i) (hd : l'.drop (i + 4) = l.drop (i + 4)) (h : Crc.more 0 l' = Crc.more 0 l) : l' = l := by
  have parts : ∀ k : List UInt8, k.take i ++ (k.drop i).take 4 ++ k.drop (i + 4) = k := by
    intro k
    rw [List.append_assoc, ← List.drop_drop, List.take_append_drop, List.take_append_drop]
  have hm : ((l'.drop i).take 4).length = ((l.drop i).take 4).length := by
    rw [List.length_take, List.length_take, List.length_drop, List.length_drop, hl]
  have h4 : ((l.drop i).take 4).length ≤ 4 := List.length_take_le _ _
  rw [← parts l', ← parts l, ht, hd] at h ⊢
  rw [Crc.more_four _ _ _ _ (by omega) hm h4 h]

end Go.Proofs.Ythppijlfaoegpaa
