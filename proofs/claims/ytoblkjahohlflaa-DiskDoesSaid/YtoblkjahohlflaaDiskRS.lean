/- The document's own disk among several things apart (Sep): refI, and its calls. -/
import Derived.Test.YtoblkjahohlflaaSep
import Derived.Test.YtoblkjahohlflaaDiskRD
import Derived.Test.YtoblkjahohlflaaDiskRE
namespace Go.Proofs.Ytoblkjahohlflaa
open Go.RowKit Go.MapKept Go.Lib
set_option linter.unusedVariables false

def refI (r : Nat) (s : St) : Item := ⟨fun w G => RefAt w r G s, fun ⟨a, b, c, D⟩ hs hz => ⟨a, b, c, D.same hs hz⟩, fun D => D.lt⟩

section
variable {W w : World} {items : List Item} {k r : Nat} {s : St}

theorem rwrite_s (h : Sep W w items) (hk : items[k]? = some (refI r s)) (i : Int) (x : ByteArray) (hi : s.has i) (hx : x.size = 128) (hd : ¬ s.dead) (hpl : s.pend.length < 1048576) :
    Calls Try.prog 24 #[.pointer (some ⟨r, 0, none⟩), .int .i64 i, .string x] w fun e w' => e = .returned (.int .i64 0) ∧ Sep W w' (items.set k (refI r (s.write i x))) := by
  obtain ⟨G, hG, _, _, put⟩ := h.at_ k hk
  exact (rwrite_yes hG i x hi hx hd hpl).mono fun e w' ⟨he, ⟨F', hF, hg⟩, ho⟩ => ⟨he, put w' F' (refI r (s.write i x)) hF hg ho⟩
theorem rwrite_arg_s (h : Sep W w items) (hk : items[k]? = some (refI r s)) (i : Int) (x : ByteArray) (hi : ¬ s.has i) :
    Calls Try.prog 24 #[.pointer (some ⟨r, 0, none⟩), .int .i64 i, .string x] w fun e w' => e = .returned (.int .i64 1) ∧ w = w' := by
  obtain ⟨G, hG, _⟩ := h.at_ k hk
  exact rwrite_arg hG i x hi
theorem rwrite_form_s (h : Sep W w items) (hk : items[k]? = some (refI r s)) (i : Int) (x : ByteArray) (hi : s.has i) (hx : x.size ≠ 128) :
    Calls Try.prog 24 #[.pointer (some ⟨r, 0, none⟩), .int .i64 i, .string x] w fun e w' => e = .returned (.int .i64 5) ∧ w = w' := by
  obtain ⟨G, hG, _⟩ := h.at_ k hk
  exact rwrite_form hG i x hi hx
theorem rwrite_dead_s (h : Sep W w items) (hk : items[k]? = some (refI r s)) (i : Int) (x : ByteArray) (hi : s.has i) (hx : x.size = 128) (hd : s.dead) :
    Calls Try.prog 24 #[.pointer (some ⟨r, 0, none⟩), .int .i64 i, .string x] w fun e w' => e = .returned (.int .i64 9) ∧ w = w' := by
  obtain ⟨G, hG, _⟩ := h.at_ k hk
  exact rwrite_dead hG i x hi hx hd
theorem rread_s (h : Sep W w items) (hk : items[k]? = some (refI r s)) (i : Int) (hi : s.has i) (hpl : s.pend.length < 1048576) :
    Calls Try.prog 27 #[.pointer (some ⟨r, 0, none⟩), .int .i64 i] w fun e w' => e = .returned (.tuple #[.string (s.cur i), .int .i64 0]) ∧ w = w' := by
  obtain ⟨G, hG, _⟩ := h.at_ k hk
  exact rread_yes hG i hi hpl
theorem rread_no_s (h : Sep W w items) (hk : items[k]? = some (refI r s)) (i : Int) (hi : ¬ s.has i) :
    Calls Try.prog 27 #[.pointer (some ⟨r, 0, none⟩), .int .i64 i] w fun e w' => e = .returned (.tuple #[.string ByteArray.empty, .int .i64 1]) ∧ w = w' := by
  obtain ⟨G, hG, _⟩ := h.at_ k hk
  exact rread_no hG i hi
theorem rflush_s (h : Sep W w items) (hk : items[k]? = some (refI r s)) (hd : ¬ s.dead) (hpl : s.pend.length < 1048576) :
    Calls Try.prog 25 #[.pointer (some ⟨r, 0, none⟩)] w fun e w' => e = .returned (.int .i64 0) ∧ Sep W w' (items.set k (refI r s.flush)) := by
  obtain ⟨G, hG, _, _, put⟩ := h.at_ k hk
  exact (rflush_yes hG hd hpl).mono fun e w' ⟨he, hF, ho⟩ => ⟨he, put w' G (refI r s.flush) hF (Grew.refl _ _) ho⟩
theorem rflush_dead_s (h : Sep W w items) (hk : items[k]? = some (refI r s)) (hd : s.dead) :
    Calls Try.prog 25 #[.pointer (some ⟨r, 0, none⟩)] w fun e w' => e = .returned (.int .i64 9) ∧ w = w' := by
  obtain ⟨G, hG, _⟩ := h.at_ k hk
  exact rflush_dead hG hd
theorem rlimit_s (h : Sep W w items) (hk : items[k]? = some (refI r s)) (n : Int) (h1 : -9223372036854775808 ≤ n) (h2 : n ≤ 9223372036854775807) :
    Calls Try.prog 26 #[.pointer (some ⟨r, 0, none⟩), .int .i64 n] w fun e w' => e = .returned (.tuple #[]) ∧ Sep W w' (items.set k (refI r (s.limit n))) := by
  obtain ⟨G, hG, _, _, put⟩ := h.at_ k hk
  exact (rlimit_any hG n h1 h2).mono fun e w' ⟨he, hF, ho⟩ => ⟨he, put w' G (refI r (s.limit n)) hF (Grew.refl _ _) ho⟩
theorem rcrash_s (h : Sep W w items) (hk : items[k]? = some (refI r s)) (A : Option Addr) (n c : Nat) (hn : n ≤ maxLen) (keep : Nat → Bool) (torn pos : Int) (hK : ∀ G : Nat → Prop, RefAt w r G s → (∀ b, G b → W.heap.size ≤ b) → KeepIs w G A n keep) (hpl : s.pend.length < 1048576) :
    Calls Try.prog 12 #[.pointer (some ⟨r, 0, none⟩), .slice A n c, .int .i64 torn, .int .i64 pos] w fun e w' => e = .returned (.tuple #[]) ∧ Sep W w' (items.set k (refI r (s.crash keep torn (clampN pos)))) := by
  obtain ⟨G, hG, hN, _, put⟩ := h.at_ k hk
  exact (rcrash_any hG A n c hn keep torn pos (hK G hG hN) hpl).mono fun e w' ⟨he, hF, ho⟩ => ⟨he, put w' G (refI r (s.crash keep torn (clampN pos))) hF (Grew.refl _ _) ho⟩
theorem rnew_s (h : Sep W w items) (n : Int) (h1 : 1 ≤ n) (h2 : n ≤ 4096) :
    Calls Try.prog 5 #[.int .i64 n] w fun e w' => ∃ r, e = .returned (.tuple #[.pointer (some ⟨r, 0, none⟩), .int .i64 0]) ∧ Sep W w' (items ++ [refI r (St.new n)]) :=
  (rnew_yes n h1 h2).mono fun e w' ⟨r, F, he, hF, hn, hb⟩ => ⟨r, he, h.new (refI r (St.new n)) hF hn hb⟩
end

end Go.Proofs.Ytoblkjahohlflaa
