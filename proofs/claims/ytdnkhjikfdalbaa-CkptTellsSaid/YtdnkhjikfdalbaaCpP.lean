/- What the statements' walks share: checkpoints in memory while others are made, and what Encode tells of a checkpoint of whichever kind. -/
import Derived.Test.YtdnkhjikfdalbaaCpH
namespace Go.Proofs.Ytdnkhjikfdalbaa
open Go.RowKit Go.Lib Wd Cr
set_option linter.unusedVariables false

/-- All old memory as it was; checkpoints' cells, and lists. -/
structure Its (w : World) (L : List (Nat × Array Value)) (M : List (Option Addr × Nat × List Int)) (W : World) : Prop where
  b : Below w.heap.size w W
  k : ∀ x ∈ L, Blk W x.1 26 x.2
  s : ∀ y ∈ M, Sl W y.1 y.2.1 y.2.2
section
variable {w W W' : World} {L : List (Nat × Array Value)} {M : List (Option Addr × Nat × List Int)}
theorem Its.later (h : Its w L M W) (hb : Below W.heap.size W W') : Its w L M W' := ⟨Wd.Ge.trans h.b hb, fun x hx => (h.k x hx).later hb, fun y hy => (h.s y hy).later hb⟩
theorem Its.drawn (h : Its w L M W) : Its w L M { W with drawn := W.drawn + 1 } := h.later (below_drawn W)
theorem Its.at_ (h : Its w L M W) {x : Nat × Array Value} (i : Nat) (hi : L[i]? = some x) : Blk W x.1 26 x.2 := h.k x (List.mem_of_getElem? hi)
theorem Its.sl (h : Its w L M W) {y : Option Addr × Nat × List Int} (i : Nat) (hi : M[i]? = some y) : Sl W y.1 y.2.1 y.2.2 := h.s y (List.mem_of_getElem? hi)
theorem Its.nil (h : Below w.heap.size w W) : Its w [] [] W := ⟨h, (fun x hx => by cases hx), (fun y hy => by cases hy)⟩
theorem Its.cons (h : Its w L M W) {b : Nat} {cs : Array Value} (K : Blk W b 26 cs) : Its w ((b, cs) :: L) M W :=
  ⟨h.b, (fun x hx => by rcases List.mem_cons.1 hx with rfl | hx; exact K; exact h.k x hx), h.s⟩
theorem Its.scons (h : Its w L M W) {A : Option Addr} {m : Nat} {o : List Int} (K : Sl W A m o) : Its w L ((A, m, o) :: M) W :=
  ⟨h.b, h.k, fun x hx => by rcases List.mem_cons.1 hx with rfl | hx; exact K; exact h.s x hx⟩
theorem its_ge {P : Program} {f : FuncId} {args : Array Value} {x : Value} (h : Its w L M W) (c : Calls P f args W fun e' w' => e' = .returned x ∧ Below W.heap.size W w') :
    Calls P f args W fun e' w' => e' = .returned x ∧ Its w L M w' :=
  c.mono fun _ _ ⟨he, hb⟩ => ⟨he, h.later hb⟩
end

theorem fitsA {g e l v : Int} {o n : List Int} (hg : 0 ≤ g ∧ g < 18446744073709551616) (he : 0 ≤ e ∧ e < 4294967296) (hl : 0 ≤ l ∧ l < 18446744073709551616) (hv : 0 ≤ v ∧ v < 18446744073709551616) : Fits ⟨g, e, l, v, o, n⟩ :=
  ⟨hg.1, hg.2, he.1, he.2, hl.1, hl.2, hv.1, hv.2⟩

/-- Encode of a checkpoint, wherever it is told from. -/
def EncAt (w : World) (g e l v : Int) (A : Option Addr) (m p : Nat) (B : Option Addr) (k q : Nat) (S : ByteArray) (y : Int) : Prop :=
  ∀ W, Below w.heap.size w W → Calls Try.prog 10 #[.agg #[.int .u64 g, .int .u32 e, .int .u64 l, .int .u64 v, .slice A m p, .slice B k q]] W fun e' w' => e' = .returned (.tuple #[.string S, .int .i64 y]) ∧ Below W.heap.size W w'
theorem enc_no {w : World} {g e l v : Int} {A : Option Addr} {m p : Nat} {B : Option Addr} {k q : Nat} {o n : List Int} (hA : Sl w A m o) (hB : Sl w B k n) (hm : m ≤ maxLen) (hg : 0 ≤ g) (hl : 0 ≤ l) (h : okC ⟨g, e, l, v, o, n⟩ = false) : Hid (EncAt w g e l v A m p B k q ⟨#[]⟩ 5) :=
  Lib.hid (fun W hW => encode_no g e l v A m p B k q o n W (hA.later hW) (hB.later hW) hm hg hl h)
theorem enc_yes {w : World} {g e l v : Int} {A : Option Addr} {m p : Nat} {B : Option Addr} {k q : Nat} {o n : List Int} {S : ByteArray} (hA : Sl w A m o) (hB : Sl w B k n) (hf : Fits ⟨g, e, l, v, o, n⟩) (h : okC ⟨g, e, l, v, o, n⟩ = true) (hS : secL ⟨g, e, l, v, o, n⟩ = S.data.toList) : Hid (EncAt w g e l v A m p B k q S 0) :=
  Lib.hid (fun W hW => encode_yes g e l v A m p B k q o n S W (hA.later hW) (hB.later hW) hf h hS)
theorem cut20_le (m : Nat) : cut20 m ≤ maxLen := by unfold cut20 maxLen; omega
theorem below_set {n : Nat} {w0 w : World} {g : Nat} (hb : Below n w0 w) (hg : n ≤ g) (ds : Array Value) : Below n w0 (w.setRow g ds) := below_row hb hg ds
theorem eq_self (s : ByteArray) : (s.toList == s.toList) = true := by rw [beq_iff_eq]
theorem ne_str {s t : ByteArray} (h : s.data.toList ≠ t.data.toList) : (s.toList == t.toList) = false := by
  rw [beq_eq_false_iff_ne, toList_data, toList_data]; exact h
theorem bytes_ext {s t : ByteArray} (h : s.data.toList = t.data.toList) : s = t := by
  apply ByteArray.ext
  exact Array.toList_inj.1 h
theorem secs_eq {c d : Chk} {S T : ByteArray} (hf : Fits c) (h : okC c = true) (hg : Fits d) (k : okC d = true) (hS : secL c = S.data.toList) (hT : secL d = T.data.toList) : (S.toList == T.toList) = decide (c = d) := by
  by_cases e : c = d
  · subst e
    have : S = T := bytes_ext (by rw [← hS, hT])
    rw [this, eq_self, decide_eq_true rfl]
  · rw [decide_eq_false e]
    exact ne_str (fun hh => e (secL_inj hf h hg k (by rw [hS, hT, hh])))

end Go.Proofs.Ytdnkhjikfdalbaa
