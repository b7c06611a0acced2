/- Both disks among several things apart (Sep): a struct in a block of its own, copies, and for each call what both answer alike, with the state behind it. -/
import Derived.Test.YtoblkjahohlflaaDiskRF
import Derived.Test.YtoblkjahohlflaaDiskSame
import Derived.Test.YtoblkjahohlflaaDiskCopy
namespace Go.Proofs.Ytoblkjahohlflaa
open Go.RowKit Go.MapKept Go.Lib
set_option linter.unusedVariables false

/-- A struct that lies in a block of its own. -/
def cellsI (B : Nat) (t : TypeId) (cs : Array Value) : Item := ⟨fun w G => Blk w B t cs ∧ ∀ b, G b ↔ b = B, fun ⟨h, hG⟩ hs hz => ⟨(hs B ((hG B).2 rfl)).trans h, hG⟩, fun ⟨h, hG⟩ b hb => by rw [(hG b).1 hb]; exact h.lt⟩

section
variable {W w : World} {items : List Item}
theorem Sep.box (h : Sep W w items) (t : TypeId) (cs : Array Value) : Sep W (w.alloc (.cells cs t)) (items ++ [cellsI w.heap.size t cs]) :=
  h.new _ (G := fun b => b = w.heap.size) ⟨Blk.new w t cs, fun _ => Iff.rfl⟩ (fun b hb => by omega) ((Below.refl _ _).alloc (Nat.le_refl _) _)
theorem cells_s (h : Sep W w items) {k B : Nat} {t : TypeId} {cs : Array Value} (hk : items[k]? = some (cellsI B t cs)) : Blk w B t cs := by
  obtain ⟨G, ⟨hB, _⟩, _⟩ := h.at_ k hk
  exact hB
theorem set_same {k : Nat} {it : Item} (h : items[k]? = some it) : items.set k it = items := by
  apply List.ext_getElem?
  intro i
  rw [List.getElem?_set]
  split
  · rename_i e
    subst e
    split
    · exact h.symm
    · rename_i hn
      rw [List.getElem?_eq_none (by omega)]
  · rfl
theorem copy_s (h : Sep W w items) {k d : Nat} {s : St} (hk : items[k]? = some (diskI d s)) (hpl : s.pend.length < 1048576) :
    Calls Try.prog 7 #[.pointer (some ⟨d, 0, none⟩)] w fun e w' => ∃ c, e = .returned (.pointer (some ⟨c, 0, none⟩)) ∧ Sep W w' (items ++ [diskI c s]) := by
  obtain ⟨G, D, _⟩ := h.at_ k hk
  exact (copy_any D hpl).mono fun e w' ⟨c, F', he, hD, hn, hb⟩ => ⟨c, he, h.new (diskI c s) hD hn hb⟩
theorem rcopy_s (h : Sep W w items) {k r : Nat} {s : St} (hk : items[k]? = some (refI r s)) (hpl : s.pend.length < 1048576) :
    Calls Try.prog 8 #[.pointer (some ⟨r, 0, none⟩)] w fun e w' => ∃ c, e = .returned (.pointer (some ⟨c, 0, none⟩)) ∧ Sep W w' (items ++ [refI c s]) := by
  obtain ⟨G, D, _⟩ := h.at_ k hk
  exact (rcopy_any D hpl).mono fun e w' ⟨c, F', he, hD, hn, hb⟩ => ⟨c, he, h.new (refI c s) hD hn hb⟩
end

/-- What a call on a disk answers, and the state behind it, among whatever other things. -/
def DiskTurns (f : FuncId) (args : Array Value) (s s' : St) (v : Value) : Prop :=
  ∀ (W w : World) (items : List Item) (k d : Nat), Sep W w items → items[k]? = some (diskI d s) → Calls Try.prog f (#[.pointer (some ⟨d, 0, none⟩)] ++ args) w fun e w' => e = .returned v ∧ Sep W w' (items.set k (diskI d s'))
def RefTurns (f : FuncId) (args : Array Value) (s s' : St) (v : Value) : Prop :=
  ∀ (W w : World) (items : List Item) (k r : Nat), Sep W w items → items[k]? = some (refI r s) → Calls Try.prog f (#[.pointer (some ⟨r, 0, none⟩)] ++ args) w fun e w' => e = .returned v ∧ Sep W w' (items.set k (refI r s'))

theorem write_both (s : St) (i : Int) (x : ByteArray) (hpl : s.pend.length < 1048576) : ∃ (c : Int) (s' : St), s'.pend.length ≤ s.pend.length + 1 ∧ s'.size = s.size ∧
    DiskTurns 14 #[.int .i64 i, .string x] s s' (.int .i64 c) ∧ RefTurns 24 #[.int .i64 i, .string x] s s' (.int .i64 c) := by
  by_cases hi : s.has i
  · by_cases hx : x.size = 128
    · by_cases hd : s.dead
      · refine ⟨9, s, by omega, rfl, fun W w items k d h hk => ?_, fun W w items k r h hk => ?_⟩
        · obtain ⟨G, D, _⟩ := h.at_ k hk
          rw [set_same hk]
          exact (write_dead D i x hi hx hd).mono fun e w' ⟨he, hw⟩ => ⟨he, hw ▸ h⟩
        · rw [set_same hk]
          exact (rwrite_dead_s h hk i x hi hx hd).mono fun e w' ⟨he, hw⟩ => ⟨he, hw ▸ h⟩
      · exact ⟨0, s.write i x, by simp [St.write], rfl, fun W w items k d h hk => write_s h k hk i x hi hx hd hpl, fun W w items k r h hk => rwrite_s h hk i x hi hx hd hpl⟩
    · refine ⟨5, s, by omega, rfl, fun W w items k d h hk => ?_, fun W w items k r h hk => ?_⟩
      · obtain ⟨G, D, _⟩ := h.at_ k hk
        rw [set_same hk]
        exact (write_form D i x hi hx).mono fun e w' ⟨he, hw⟩ => ⟨he, hw ▸ h⟩
      · rw [set_same hk]
        exact (rwrite_form_s h hk i x hi hx).mono fun e w' ⟨he, hw⟩ => ⟨he, hw ▸ h⟩
  · refine ⟨1, s, by omega, rfl, fun W w items k d h hk => ?_, fun W w items k r h hk => ?_⟩
    · obtain ⟨G, D, _⟩ := h.at_ k hk
      rw [set_same hk]
      exact (write_arg D i x hi).mono fun e w' ⟨he, hw⟩ => ⟨he, hw ▸ h⟩
    · rw [set_same hk]
      exact (rwrite_arg_s h hk i x hi).mono fun e w' ⟨he, hw⟩ => ⟨he, hw ▸ h⟩

theorem flush_both (s : St) (hpl : s.pend.length < 1048576) : ∃ (c : Int) (s' : St), s'.pend.length ≤ s.pend.length + 1 ∧ s'.size = s.size ∧
    DiskTurns 16 #[] s s' (.int .i64 c) ∧ RefTurns 25 #[] s s' (.int .i64 c) := by
  by_cases hd : s.dead
  · refine ⟨9, s, by omega, rfl, fun W w items k d h hk => ?_, fun W w items k r h hk => ?_⟩
    · obtain ⟨G, D, _⟩ := h.at_ k hk
      rw [set_same hk]
      exact (flush_dead D hd).mono fun e w' ⟨he, hw⟩ => ⟨he, hw ▸ h⟩
    · rw [set_same hk]
      exact (rflush_dead_s h hk hd).mono fun e w' ⟨he, hw⟩ => ⟨he, hw ▸ h⟩
  · exact ⟨0, s.flush, by simp [St.flush], rfl, fun W w items k d h hk => flush_s h k hk hd hpl, fun W w items k r h hk => rflush_s h hk hd hpl⟩

theorem limit_both (s : St) (n : Int) (h1 : -9223372036854775808 ≤ n) (h2 : n ≤ 9223372036854775807) :
    DiskTurns 19 #[.int .i64 n] s (s.limit n) (.tuple #[]) ∧ RefTurns 26 #[.int .i64 n] s (s.limit n) (.tuple #[]) := by
  refine ⟨fun W w items k d h hk => ?_, fun W w items k r h hk => rlimit_s h hk n h1 h2⟩
  obtain ⟨G, D, _, _, put⟩ := h.at_ k hk
  exact (limit_any D n h1 h2).mono fun e w' ⟨he, hF, ho⟩ => ⟨he, put w' G (diskI d (s.limit n)) hF (Grew.refl _ _) ho⟩

theorem read_both (s : St) (i : Int) (hpl : s.pend.length < 1048576) : ∃ (x : ByteArray) (c : Int),
    DiskTurns 17 #[.int .i64 i] s s (.tuple #[.string x, .int .i64 c]) ∧ RefTurns 27 #[.int .i64 i] s s (.tuple #[.string x, .int .i64 c]) := by
  by_cases hi : s.has i
  · refine ⟨s.cur i, 0, fun W w items k d h hk => ?_, fun W w items k r h hk => ?_⟩
    · rw [set_same hk]; exact read_s h k hk i hi _ rfl
    · rw [set_same hk]; exact (rread_s h hk i hi hpl).mono fun e w' ⟨he, hw⟩ => ⟨he, hw ▸ h⟩
  · refine ⟨ByteArray.empty, 1, fun W w items k d h hk => ?_, fun W w items k r h hk => ?_⟩
    · obtain ⟨G, D, _⟩ := h.at_ k hk
      rw [set_same hk]
      exact (read_no D i hi).mono fun e w' ⟨he, hw⟩ => ⟨he, hw ▸ h⟩
    · rw [set_same hk]; exact (rread_no_s h hk i hi).mono fun e w' ⟨he, hw⟩ => ⟨he, hw ▸ h⟩

end Go.Proofs.Ytoblkjahohlflaa
