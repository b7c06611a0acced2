/- The plain side of a table that rolls till each segment is in use, and is dropped till one is left. No program is spoken of. -/
import Derived.Test.YtpgbbbgblgkokaaTbX
namespace Go.Proofs.Ytpgbbbgblgkokaa
open Go.RowKit Go.Lib
set_option linter.unusedVariables false

def zeros (i : Nat) : List Int := List.replicate i 0
/-- The first LSNs of i segments that were opened one after the other. -/
def frs (F : Nat → Int) (i : Nat) : List Int := (List.range i).map F
theorem frs_succ (F : Nat → Int) (i : Nat) : frs F (i + 1) = frs F i ++ [F i] := by simp [frs, List.range_succ]
theorem frs_len (F : Nat → Int) (i : Nat) : (frs F i).length = i := by simp [frs]
theorem upto_len (i : Nat) : (upto i).length = i := by simp [upto]
theorem zeros_len (i : Nat) : (zeros i).length = i := by simp [zeros]
theorem zeros_succ (i : Nat) : zeros (i + 1) = zeros i ++ [0] := by simp [zeros, List.replicate_succ']
theorem nth_upto {i j : Nat} (h : j < i) : nth (upto i) j = j := by rw [nth_lt (by rw [upto_len]; exact h)]; simp [upto]
theorem nth_zeros {i j : Nat} (h : j < i) : nth (zeros i) j = 0 := by rw [nth_lt (by rw [zeros_len]; exact h)]; simp [zeros]
theorem nth_frs {F : Nat → Int} {i j : Nat} (h : j < i) : nth (frs F i) j = F j := by rw [nth_lt (by rw [frs_len]; exact h)]; simp [frs]

/-- i segments in use, opened one after the other. -/
def cyc (n : Nat) (st : Int) (F : Nat → Int) (i : Nat) : Tab := ⟨(n : Int), st, upto i, zeros i, frs F i⟩
theorem cyc_ok {n : Nat} {st : Int} {F : Nat → Int} {i : Nat} (hn : 4 ≤ n ∧ n ≤ 16) (hs : 1 ≤ st ∧ st ≤ 30) (hi : 1 ≤ i ∧ i ≤ n) : okP (cyc n st F i) := by
  refine ⟨by simp only [cyc]; omega, hs, by simp only [cyc, upto_len]; omega, ?_, upto_nodup i, ?_, by simp only [cyc, upto_len, zeros_len], by simp only [cyc, upto_len, frs_len]⟩
  · intro x hx
    simp only [cyc] at hx ⊢
    rw [mem_upto] at hx
    omega
  · intro x hx
    simp only [cyc, zeros] at hx ⊢
    rw [List.eq_of_mem_replicate hx]
    omega
theorem free_none (i : Nat) : ∀ k, k ≤ i → freeTo (upto i) k = []
  | 0, _ => freeTo_zero _
  | k + 1, h => by rw [freeTo_no (by rw [mem_upto]; omega), free_none i k (by omega)]
theorem cyc_roll {n : Nat} {st : Int} {F : Nat → Int} {i : Nat} (hi : i < n) : rollT (cyc n st F i) (F i) = some (cyc n st F (i + 1)) := by
  have h1 : freeTo (upto i) (i + 1) = [(i : Int)] := by rw [freeTo_yes (by rw [mem_upto]; omega), free_none i i (Nat.le_refl _)]; rfl
  obtain ⟨t, ht⟩ := freeTo_mono (upto i) (show i + 1 ≤ n by omega)
  rw [h1] at ht
  unfold rollT
  have e : freeT (cyc n st F i) = (i : Int) :: t := by
    unfold freeT cyc
    simp only [Int.toNat_natCast]
    rw [← ht]; rfl
  rw [e]
  simp only [openedT, cyc]
  rw [upto_succ, zeros_succ, frs_succ]
theorem cyc_full {n : Nat} {st : Int} {F : Nat → Int} (x : Int) : rollT (cyc n st F n) x = none ∧ freeT (cyc n st F n) = [] := by
  have e : freeT (cyc n st F n) = [] := by
    unfold freeT cyc
    simp only [Int.toNat_natCast]
    exact free_none n n (Nat.le_refl _)
  refine ⟨?_, e⟩
  unfold rollT
  rw [e]
theorem last_zeros {i : Nat} (h : 1 ≤ i) : lastN (zeros i) = 0 := by unfold lastN; rw [zeros_len]; exact nth_zeros (by omega)
theorem cyc_room {n : Nat} {st : Int} {F : Nat → Int} (hn : 1 ≤ n) : roomT (cyc n st F n) = st := by
  unfold roomT cyc
  simp only [upto_len, last_zeros hn]
  rw [Int.sub_self, Int.mul_zero]; omega

/-- The first i of them dropped. -/
def dcy (n : Nat) (st : Int) (F : Nat → Int) (i : Nat) : Tab := ⟨(n : Int), st, (upto n).drop i, (zeros n).drop i, (frs F n).drop i⟩
theorem dcy_zero (n : Nat) (st : Int) (F : Nat → Int) : dcy n st F 0 = cyc n st F n := by simp [dcy, cyc]
theorem dcy_ok {n : Nat} {st : Int} {F : Nat → Int} {i : Nat} (hn : 4 ≤ n ∧ n ≤ 16) (hs : 1 ≤ st ∧ st ≤ 30) (hi : i < n) : okP (dcy n st F i) := by
  have h := cyc_ok (F := F) (i := n) hn hs (by omega)
  obtain ⟨h1, h2, h3, h4, h5, h6, h7, h8⟩ := h
  refine ⟨h1, h2, by simp only [dcy, List.length_drop, upto_len]; omega, fun x hx => h4 x (List.mem_of_mem_drop hx), h5.sublist (List.drop_sublist _ _), fun x hx => h6 x (List.mem_of_mem_drop hx), by simp only [dcy, List.length_drop, upto_len, zeros_len], by simp only [dcy, List.length_drop, upto_len, frs_len]⟩
theorem drop_cons {l : List Int} {i : Nat} (h : i < l.length) : l.drop i = nth l i :: l.drop (i + 1) := by rw [nth_lt h]; exact List.drop_eq_getElem_cons h
theorem drop_yes {t : Tab} {x : Int} {i : Nat} (hi : idx t.o x = i) (h : i + 1 < t.o.length) : dropT t x = some (droppedT t i) := by
  unfold dropT
  rw [if_neg (by rw [hi]; omega), hi]
  simp
theorem dcy_drop {n : Nat} {st : Int} {F : Nat → Int} {i : Nat} (hi : i + 1 < n) : dropT (dcy n st F i) (i : Int) = some (dcy n st F (i + 1)) := by
  have e1 : (upto n).drop i = (i : Int) :: (upto n).drop (i + 1) := by rw [drop_cons (by rw [upto_len]; omega), nth_upto (by omega)]
  have e2 : (zeros n).drop i = 0 :: (zeros n).drop (i + 1) := by rw [drop_cons (by rw [zeros_len]; omega), nth_zeros (by omega)]
  have e3 : (frs F n).drop i = F i :: (frs F n).drop (i + 1) := by rw [drop_cons (by rw [frs_len]; omega), nth_frs (by omega)]
  have e4 : idx ((upto n).drop i) (i : Int) = 0 := by rw [e1]; exact idx_at (i := 0) (by simp) rfl (by simp)
  rw [drop_yes (i := 0) (by simpa [dcy] using e4) (by simp only [dcy, List.length_drop, upto_len]; omega)]
  simp only [droppedT, dcy]
  rw [e1, e2, e3]
  simp
theorem dcy_end {n : Nat} {st : Int} {F : Nat → Int} (hn : 4 ≤ n) : (upto n).drop (n - 1) = [((n - 1 : Nat) : Int)] ∧ freeT (dcy n st F (n - 1)) = upto (n - 1) ∧ roomT (dcy n st F (n - 1)) = (n : Int) * st := by
  have e1 : (upto n).drop (n - 1) = [((n - 1 : Nat) : Int)] := by
    rw [drop_cons (by rw [upto_len]; omega), nth_upto (by omega), List.drop_eq_nil_of_le (by rw [upto_len]; omega)]
  have e2 : (zeros n).drop (n - 1) = [0] := by
    rw [drop_cons (by rw [zeros_len]; omega), nth_zeros (by omega), List.drop_eq_nil_of_le (by rw [zeros_len]; omega)]
  refine ⟨e1, ?_, ?_⟩
  · unfold freeT dcy
    simp only [Int.toNat_natCast]
    rw [e1]
    have key : ∀ k, k ≤ n - 1 → freeTo [((n - 1 : Nat) : Int)] k = upto k := by
      intro k
      induction k with
      | zero => intro _; rw [freeTo_zero]; rfl
      | succ k ih =>
        intro h
        rw [freeTo_yes (by simp; omega), ih (by omega), upto_succ]
    obtain ⟨m, rfl⟩ : ∃ m, n = m + 1 := ⟨n - 1, by omega⟩
    simp only [Nat.add_sub_cancel] at key ⊢
    rw [freeTo_no (by simp), key m (Nat.le_refl _)]
  · unfold roomT dcy
    simp only
    rw [e1, e2]
    have : lastN [0] = 0 := rfl
    rw [this]
    obtain ⟨m, rfl⟩ : ∃ m, n = m + 1 := ⟨n - 1, by omega⟩
    simp only [List.length_singleton]
    have e : ((m + 1 : Nat) : Int) = (m : Int) + 1 := by omega
    rw [e, show (m : Int) + 1 - ((1 : Nat) : Int) = (m : Int) by omega, Int.add_mul, Int.mul_comm st]
    omega

/-- A table in a block, with its lists. -/
structure CyI (w : World) (b : Nat) (sg st : Int) (A : Option Addr) (m p : Nat) (B : Option Addr) (k q : Nat) (C : Option Addr) (n r : Nat) (o l f : List Int) (W : World) : Prop where
  bb : Below w.heap.size w W
  z : Blk W b 28 (csT sg st A m p B k q C n r)
  t : TIn W A m B k C n o l f
  mp : m ≤ p
/-- A row of the call's own. -/
structure OwR (base : Nat) (A : Option Addr) (m p : Nat) (l : List Int) (W : World) : Prop where
  o : W.ownsRow base 3 1 (.slice A m p) m (iv .i64 l)
section
variable {κ : IntKind} {W W' W0 : World} {A : Option Addr} {m b base p : Nat} {l : List Int} {cs : Array Value}
theorem OwR.later (h : OwR base A m p l W) (hb : Below W.heap.size W W') : OwR base A m p l W' := ⟨own_later h.o hb⟩
theorem Sl.rowF (h : Sl κ W A m l) (hf : Fresh W0 base A m) (hb : b < base) : Sl κ (W.setRow b cs) A m l := by
  refine ⟨h.len, fun hn => ?_⟩
  obtain ⟨g, o, e, hlt, hc⟩ := h.cells hn
  obtain ⟨g', o', e', hge, _⟩ := hf hn
  rw [e] at e'
  injection e' with e'
  injection e' with e1 e2
  subst e1 e2
  refine ⟨g, o, e, by rw [row_size]; exact hlt, fun j hj => ?_⟩
  rw [← hc j hj]
  refine World.cell?_of_block ?_
  unfold World.setRow
  rw [Array.getElem?_modify, if_neg (by simp only; omega)]
theorem Sl.grownF {row : Option Nat} (h : Sl κ W A m l) (hf : Fresh W0 base A m) (hg : W.grownBy W' row) (hr : ∀ g, row = some g → g < base) : Sl κ W' A m l := by
  refine ⟨h.len, fun hn => ?_⟩
  obtain ⟨g, o, e, hlt, hc⟩ := h.cells hn
  obtain ⟨g', o', e', hge, _⟩ := hf hn
  rw [e] at e'
  injection e' with e'
  injection e' with e1 e2
  subst e1 e2
  refine ⟨g, o, e, by have := hg.size; omega, fun j hj => ?_⟩
  rw [← hc j hj]
  exact World.cell?_of_block (hg.block g hlt (fun e => by have := hr g e.symm; omega))
end
section
variable {W W' W0 : World} {A : Option Addr} {m : Nat} {B : Option Addr} {k : Nat} {C : Option Addr} {n : Nat} {o l f : List Int} {b base : Nat} {cs : Array Value}
theorem TIn.rowF (h : TIn W A m B k C n o l f) (hf : Fresh W0 base A m ∧ Fresh W0 base B k ∧ Fresh W0 base C n) (hb : b < base) : TIn (W.setRow b cs) A m B k C n o l f :=
  ⟨h.a.rowF hf.1 hb, h.b.rowF hf.2.1 hb, h.c.rowF hf.2.2 hb⟩
theorem TIn.grownF {row : Option Nat} (h : TIn W A m B k C n o l f) (hf : Fresh W0 base A m ∧ Fresh W0 base B k ∧ Fresh W0 base C n) (hg : W.grownBy W' row) (hr : ∀ g, row = some g → g < base) : TIn W' A m B k C n o l f :=
  ⟨h.a.grownF hf.1 hg hr, h.b.grownF hf.2.1 hg hr, h.c.grownF hf.2.2 hg hr⟩
end
theorem OwR.push {base : Nat} {A : Option Addr} {m p : Nat} {l : List Int} {W : World} (h : OwR base A m p l W) (x : Int) (hm : m < 1000) (hb : base ≤ W.heap.size) :
    ∃ g p' W5, (∀ ty, (Builtin.append_ #[25, 25] ty #[.slice A m p, .slice (some ⟨W.heap.size, 0, none⟩) 1 1]).run Try.prog (W.alloc (.cells #[.int .i64 x] 3)) = .ok (.slice (some ⟨g, 0, none⟩) (m + 1) p') W5) ∧
      OwR base (some ⟨g, 0, none⟩) (m + 1) p' (l ++ [x]) W5 ∧ (W.alloc (.cells #[.int .i64 x] 3)).grownBy W5 (ob A) ∧ (∀ g, ob A = some g → base ≤ g ∧ g < W.heap.size) := by
  obtain ⟨g, p', W5, h1, h2, h3, _, _⟩ := push_run (T := 25) Try.underlying25 infoI rfl (h.o.alloc (.cells #[.int .i64 x] 3)) hm ((Blk.new W 3 #[.int .i64 x]).cell 0) (by simp; omega)
  exact ⟨g, p', W5, h1, ⟨h2⟩, h3, fun g hg => h.o.lt g (by rw [ob_eq]; exact hg)⟩
end Go.Proofs.Ytpgbbbgblgkokaa
