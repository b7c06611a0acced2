/- The list that the statements' Cut tells. -/
import Derived.Test.YtckakkocblkcoaaReP
namespace Go.Proofs.Ytckakkocblkcoaa.Re
open Go.RowKit Go.Lib
open Sp
set_option linter.unusedVariables false
set_option maxRecDepth 100000

theorem cut80_size (s : ByteArray) : (cut80 s).size ≤ 80 := by
  unfold cut80
  rw [ByteArray.size_extract]
  omega
theorem cut_fine {L : List Rec} (h : Fine L) (m : Nat) : Fine (cutL L m) := by
  intro r hr
  obtain ⟨q, hq, rfl⟩ := List.mem_map.1 hr
  have o := h q (List.mem_of_mem_take hq)
  have h1 := cut80_size q.i
  have h2 := cut80_size q.a
  exact ⟨o.v, o.d, by show (cut80 q.i).size ≤ _; unfold maxLen; omega, by show (cut80 q.a).size ≤ _; unfold maxLen; omega⟩
theorem newest_fine {L : List Rec} (h : Fine L) : Fine (newest L) := fun r hr => h r (newest_live hr).2
theorem upL_len (L : List Rec) (ver : Int) : (upL L ver).length ≤ L.length := List.length_filter_le _ _
/-- The statements' Cut: a list that can be read, and is fine. -/
theorem cut_any {w : World} {A : Option Addr} {n : Nat} (p : Nat) {L : List Rec} (h : RR w A n L) (hn : n ≤ maxLen) (m : Nat) (hm : m ≤ 500) (hf : Fine L) :
    Calls Try.prog 9 #[.slice A n p, .int .i64 (m : Int)] w fun e w' => ∃ g' p', e = .returned (.slice (some ⟨g', 0, none⟩) (min m n) p') ∧ RR w' (some ⟨g', 0, none⟩) (min m n) (cutL L m) ∧ Below w.heap.size w w' :=
  (cutl_any h hn m hm (fun r hr => ⟨(hf r hr).i, (hf r hr).a⟩)).mono fun e w' ⟨g', p', he, hs⟩ => ⟨g', p', he, RR.of_row hs (k := 0) rfl (by rw [cutL_len, h.len]), hs.below⟩
end Go.Proofs.Ytckakkocblkcoaa.Re
