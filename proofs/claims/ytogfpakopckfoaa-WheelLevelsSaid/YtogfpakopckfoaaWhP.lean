/- Timers set one behind the other, each under a letter of its own. -/
import Derived.Test.YtogfpakopckfoaaWhO
import Derived.Laws.BytesArg
namespace Go.Proofs.Ytogfpakopckfoaa.Wl
open Go.RowKit Go.Lib
open Sp
set_option linter.unusedVariables false
set_option maxRecDepth 100000

/-- A string of one byte. -/
def chr (c : Nat) : ByteArray := ⟨#[c.toUInt8]⟩
theorem chr_conv (W : World) (g c : Nat) (hc : c < 256) (h : W.cell? ⟨g, 0, none⟩ = some (.int .u8 (c : Nat))) : (convert 52 9 (.slice (some ⟨g, 0, none⟩) 1 1)).run Try.prog W = .ok (.string (chr c)) W := by
  have := run_convert_bytes_arg (P := Try.prog) (w := W) 52 5 Try.underlying52 Try.underlying5 g 0 1 1 [(c : Int)] rfl (fun i hi => by
    obtain rfl : i = 0 := by omega
    simpa using h) 9 Try.underlying9
  rw [this]
  rfl
theorem chr_size (c : Nat) : (chr c).size ≤ 1000 := by simp [chr, ByteArray.size]
theorem chr_key (c : Nat) : (chr c).toList = [c.toUInt8] := by rw [Lib.toList_data]; rfl
theorem chr_inj {a b : Nat} (ha : a < 256) (hb : b < 256) (h : (chr a).toList = (chr b).toList) : a = b := by
  rw [chr_key, chr_key] at h
  injection h with h _
  have := congrArg UInt8.toNat h
  simp at this
  omega
/-- The timers of the first i letters. -/
def tmL (c : Nat → Nat) (d : Nat → Int) (i : Nat) : List Tm := (List.range i).map fun j => ⟨chr (c j), d j⟩
theorem tmL_len (c : Nat → Nat) (d : Nat → Int) (i : Nat) : (tmL c d i).length = i := by simp [tmL]
theorem tmL_succ (c : Nat → Nat) (d : Nat → Int) (i : Nat) : tmL c d (i + 1) = tmL c d i ++ [⟨chr (c i), d i⟩] := by simp [tmL, List.range_succ]
theorem ins_perm (t : Tm) (l : List Tm) : (ins t l).Perm (t :: l) := by
  unfold ins
  have h := List.perm_middle (a := t) (l₁ := l.takeWhile (fun a => ahd a t)) (l₂ := l.dropWhile (fun a => ahd a t))
  rwa [List.takeWhile_append_dropWhile] at h
/-- So many letters have been set. -/
structure SetL (t : Int) (c : Nat → Nat) (d : Nat → Int) (i : Nat) (s : Wh) : Prop where
  g : Wl.Good s
  t : s.t = t
  p : s.l.Perm (tmL c d i)
theorem SetL.start {t : Int} (c : Nat → Nat) (d : Nat → Int) (h : 0 ≤ t ∧ t < 18446744073709551616) : SetL t c d 0 ⟨t, []⟩ := ⟨Good.new h, rfl, List.Perm.refl _⟩
theorem SetL.new {t : Int} {c : Nat → Nat} {d : Nat → Int} {i : Nat} {s : Wh} (h : SetL t c d i s) (hc : ∀ j, j < i → c j < 256 ∧ c j ≠ c i) (hi : c i < 256) : find s.l (chr (c i)).toList = none := by
  rw [find_none]
  intro a ha hk
  have hm := h.p.mem_iff.1 ha
  obtain ⟨j, hj, rfl⟩ := List.mem_map.1 hm
  have hj2 := List.mem_range.1 hj
  exact (hc j hj2).2 (chr_inj (hc j hj2).1 hi hk)
theorem SetL.next {t : Int} {c : Nat → Nat} {d : Nat → Int} {i : Nat} {s : Wh} (h : SetL t c d i s) (hc : ∀ j, j < i → c j < 256 ∧ c j ≠ c i) (hi : c i < 256) (hd : 0 ≤ d i ∧ d i < 18446744073709551616) (hn : i < 200) : SetL t c d (i + 1) (setW s (chr (c i)) (d i)) := by
  have hl : s.l.length = i := by rw [h.p.length_eq, tmL_len]
  refine ⟨h.g.set hd (chr_size _) (by omega), h.t, ?_⟩
  show (ins ⟨chr (c i), d i⟩ (rem s.l (chr (c i)).toList)).Perm _
  rw [rem_none (h.new hc hi), tmL_succ]
  exact (ins_perm _ _).trans ((List.perm_append_singleton _ _).symm.trans (h.p.append_right _))
end Go.Proofs.Ytogfpakopckfoaa.Wl
