/- Arguments that lie in memory and are only read: what their cells hold, that they read behind the call as they did where no old memory has changed, and the last step of a law's row. -/
import Derived.Test.YtfhdckmpodmejaaRows
import Derived.WalkKit
import Derived.ProofKit
import Derived.Below
import Derived.Carry
import Derived.ChangeSame
import Derived.OpenShut
import Derived.Deep.Slices
import Derived.Deep.MidRow
namespace Go.Proofs.Ytfhdckmpodmejaa
open Go.ChangeShapes Go.WideShapes Go.ChangeAt Go.RowKit Go.Deep
section
variable {H : Type} {enc : TypeId × Value → H} {P : Program}

/-- The row's last step, from a walk that leaves all old memory as it was, with arguments that lie in memory. -/
theorem post_mem {f : Func} {s : ChangeSpec} {apart fresh handsOn again : Bool} {W W' : World} {args : Array Value} {v : Value} {ds gs : List (DataW H)} {before : List MemPlace}
    (hW : DataW.Whole enc P f.params.toList s.vars apart W args.toList ds gs before)
    (hres : ∀ (b : Nat) (sp : Nat → Bool) (hd : Bool), DataW.TrodAll enc P W' b sp hd f.resultTypes.toList (v.resultList f.resultTypes.size) (s.fn H (ds ++ gs)).results [])
    (hargs : ∀ sp : Nat → Bool, (∀ p ∈ before, sp p.block = true) → DataW.TrodAll enc P W' 0 sp true f.params.toList args.toList (s.fn H (ds ++ gs)).args before)
    (hvars : ∀ sp : Nat → Bool, DataW.TrodVars enc P W' sp s.vars (s.fn H (ds ++ gs)).vars [])
    (hb : Below W.heap.size W W')
    (hok : ∀ (j : Nat) (t : TypeId) (r : Value), f.resultTypes[j]? = some t → (v.resultList f.resultTypes.size)[j]? = some r → Value.okWide P W' .any 0 t r) :
    s.post enc P f apart fresh handsOn again W args v W' := by
  have hlt : ∀ p ∈ before, p.block < W.heap.size := fun p hp => hW.lt p hp
  have hold : ∀ p ∈ before, (fun b => decide (b < W.heap.size)) p.block = true := fun p hp => by simpa using hlt p hp
  refine ⟨ds, gs, before, [], before, [], hW, hres _ _ _, hargs _ hold, hvars _, World.keptBut_mono (fun p hp => ⟨hp, ?_⟩) (hb.frame (· ∈ before)), fun _ => ?_⟩
  · exact Or.inr (Or.inl hp)
  · obtain ⟨_, _, _, _, _, hz, hn⟩ := hW
    refine ⟨hok, _, _, ([] ++ before) ++ [], ⟨[] ++ before, [], trodAll_append (hargs _ (fun _ _ => rfl)) (hres _ _ _), hvars _, rfl, ?_, ?_⟩, ?_⟩
    · intro b off hp
      have hin : MemPlace.cell b off ∈ before := by simpa using hp
      rw [hb.frozen (hlt _ hin)]
      exact hz b off hin
    · intro ha
      simpa using hn ha
    · intro p hp _
      simpa using hp

/-- An argument that lies in old memory reads as it did. -/
theorem arg_same {t : TypeId} (hl : laidOutB P = true) (hr : P.readableRec t = true) (hrow : t < P.types.size) {W W' : World} {sp : Nat → Bool} {v : Value} {d : DataW H} {ps before : List MemPlace}
    (h : DataW.Trod enc P W 0 (fun _ => true) true t v d ps) (hb : Below W.heap.size W W') (hin : ∀ x ∈ ps, x ∈ before) (hlt : ∀ x ∈ before, x.block < W.heap.size) (hs : ∀ p ∈ before, sp p.block = true) : DataW.Trod enc P W' 0 sp true t v d ps :=
  WideElems.Trod_stays hl hr hrow h (fun x hx => hb.same (hlt x (hin x hx))) (fun x hx => hs x (hin x hx))
end

theorem i64_of {n : Int} (h : (Lit.int .i64 n).wf = true) : -9223372036854775808 ≤ n ∧ n ≤ 9223372036854775807 := by
  simp [Lit.wf] at h
  exact h
theorem u8_of {n : Int} (h : (Lit.int .u8 n).wf = true) : 0 ≤ n ∧ n < 256 := by
  simp [Lit.wf] at h
  have h2 : n ≤ 255 := h.2
  exact ⟨h.1, by omega⟩

/-- A slice of one-cell elements: its cells by their index. -/
def CellsIn (W : World) (A : Option Addr) (n : Nat) (V : Nat → Value) : Prop := 0 < n → ∃ b o, A = some ⟨b, o, none⟩ ∧ b < W.heap.size ∧ ∀ j, j < n → W.cell? ⟨b, o + j, none⟩ = some (V j)

theorem CellsIn.later {W W' : World} {A : Option Addr} {n : Nat} {V : Nat → Value} (h : CellsIn W A n V) (hb : Below W.heap.size W W') : CellsIn W' A n V := fun hn => by
  obtain ⟨b, o, e, hlt, hc⟩ := h hn
  exact ⟨b, o, e, Nat.lt_of_lt_of_le hlt hb.size, fun j hj => (hb.cell (p := ⟨b, o + j, none⟩) hlt).trans (hc j hj)⟩

section
variable {H : Type} {enc : TypeId × Value → H} {P : Program} {W : World}
theorem spot_none {a : Addr} {v : Value} (h : W.cell? a = some v) : a = ⟨a.block, a.off, none⟩ ∧ a.block < W.heap.size := by
  have hs : a.spot = none := by
    unfold World.cell? at h
    split at h
    · split at h
      · cases h
      · rename_i hs
        cases hsp : a.spot with
        | none => rfl
        | some s => simp [hsp] at hs
    · cases h
  refine ⟨?_, World.block_lt_of_cell? W a h⟩
  cases a; simp_all

theorem open_one {t e : TypeId} {r : Reach} {b0 : Nat} {v : Value} {d : DataW H} {p : List MemPlace} (ht : P.underlying t = some (.slice e)) (hc : P.cellsOf e = 1) (hv : Value.okWide P W r b0 t v)
    (h : DataW.Trod enc P W 0 (fun _ => true) true t v d p) :
    ∃ A n c V, v = .slice A n c ∧ n ≤ maxLen ∧ CellsIn W A n V ∧ ∀ j, j < n → ∃ m x, DataW.trod enc P W 0 (fun _ => true) true m e [V j] = some x := by
  obtain ⟨A, n, c, rfl⟩ := okWide_slice ht hv
  obtain ⟨fuel, hf⟩ := h
  rcases open_slice1 ht hc hf with ⟨h0, _⟩ | ⟨a, len, cap, m, k, V, D, Pl, hcs, _, hl, hm, hmm, _, hi⟩
  · have h1 : (Value.slice A n c) = .slice none 0 0 := by simpa [Value.cells] using h0
    injection h1 with h1 h2 h3
    subst h1 h2 h3
    exact ⟨none, 0, 0, fun _ => .bool false, rfl, Nat.zero_le _, fun h => absurd h (by omega), fun j hj => absurd hj (by omega)⟩
  · have h1 : (Value.slice A n c) = .slice (some a) len cap := by simpa [Value.cells] using hcs
    injection h1 with h1 h2 h3
    subst h1 h2 h3
    simp only [if_true] at hmm
    subst hmm
    refine ⟨some a, n, m, V, rfl, Nat.le_trans hl hm, fun hn => ?_, fun j hj => ⟨k, _, (hi j (by omega)).2⟩⟩
    have h0 := (hi 0 (by omega)).1
    have ha : a.add 0 = a := by unfold Addr.add; simp
    rw [ha] at h0
    obtain ⟨e1, e2⟩ := spot_none h0
    refine ⟨a.block, a.off, by rw [← e1], e2, fun j hj => ?_⟩
    have := (hi j (by omega)).1
    rw [e1, Addr.add_mid] at this
    exact this

theorem open_nums {t e : TypeId} {k : IntKind} {r : Reach} {b0 : Nat} {v : Value} {d : DataW H} {p : List MemPlace} (ht : P.underlying t = some (.slice e)) (he : P.underlying e = some (.int k)) (hc : P.cellsOf e = 1) (hv : Value.okWide P W r b0 t v)
    (h : DataW.Trod enc P W 0 (fun _ => true) true t v d p) :
    ∃ A n c, ∃ f : Nat → Int, v = .slice A n c ∧ n ≤ maxLen ∧ CellsIn W A n (fun j => .int k (f j)) ∧ ∀ j, j < n → (Lit.int k (f j)).wf = true := by
  obtain ⟨A, n, c, V, rfl, hn, hc, hx⟩ := open_one ht hc hv h
  obtain ⟨f, hf⟩ := choose_lt (α := Int) (n := n) (p := fun j z => V j = .int k z ∧ (Lit.int k z).wf = true) (fun j hj => by
    obtain ⟨m, x, hm⟩ := hx j hj
    obtain ⟨z, e1, _, hw⟩ := DataW.trod_int he hm
    exact ⟨z, by simpa using e1, hw⟩)
  refine ⟨A, n, c, f, rfl, hn, fun h0 => ?_, fun j hj => (hf j hj).2⟩
  obtain ⟨b, o, e, hb, hcell⟩ := hc h0
  exact ⟨b, o, e, hb, fun j hj => by rw [hcell j hj, (hf j hj).1]⟩

theorem open_bools {t e : TypeId} {r : Reach} {b0 : Nat} {v : Value} {d : DataW H} {p : List MemPlace} (ht : P.underlying t = some (.slice e)) (he : P.underlying e = some .bool) (hc : P.cellsOf e = 1) (hv : Value.okWide P W r b0 t v)
    (h : DataW.Trod enc P W 0 (fun _ => true) true t v d p) :
    ∃ A n c, ∃ f : Nat → Bool, v = .slice A n c ∧ n ≤ maxLen ∧ CellsIn W A n (fun j => .bool (f j)) ∧ ∀ j, n ≤ j → f j = false := by
  obtain ⟨A, n, c, V, rfl, hn, hc, hx⟩ := open_one ht hc hv h
  obtain ⟨f, hf⟩ := choose_lt (α := Bool) (n := n) (p := fun j z => V j = .bool z) (fun j hj => by
    obtain ⟨m, x, hm⟩ := hx j hj
    obtain ⟨z, e1, _⟩ := DataW.trod_bool he hm
    exact ⟨z, by simpa using e1⟩)
  refine ⟨A, n, c, fun j => decide (j < n) && f j, rfl, hn, fun h0 => ?_, fun j hj => by simp [show ¬ j < n by omega]⟩
  obtain ⟨b, o, e, hb, hcell⟩ := hc h0
  exact ⟨b, o, e, hb, fun j hj => by rw [hcell j hj, hf j hj]; simp [hj]⟩

theorem open_strs {t e : TypeId} {r : Reach} {b0 : Nat} {v : Value} {d : DataW H} {p : List MemPlace} (ht : P.underlying t = some (.slice e)) (he : P.underlying e = some .string) (hc : P.cellsOf e = 1) (hv : Value.okWide P W r b0 t v)
    (h : DataW.Trod enc P W 0 (fun _ => true) true t v d p) :
    ∃ A n c, ∃ f : Nat → ByteArray, v = .slice A n c ∧ n ≤ maxLen ∧ CellsIn W A n (fun j => .string (f j)) ∧ ∀ j, j < n → (f j).size ≤ maxLen := by
  obtain ⟨A, n, c, V, rfl, hn, hc, hx⟩ := open_one ht hc hv h
  obtain ⟨f, hf⟩ := choose_lt (α := ByteArray) (n := n) (p := fun j z => V j = .string z ∧ z.size ≤ maxLen) (fun j hj => by
    obtain ⟨m, x, hm⟩ := hx j hj
    obtain ⟨z, e1, _, hw⟩ := DataW.trod_string he hm
    exact ⟨z, by simpa using e1, hw⟩)
  refine ⟨A, n, c, f, rfl, hn, fun h0 => ?_, fun j hj => (hf j hj).2⟩
  obtain ⟨b, o, e, hb, hcell⟩ := hc h0
  exact ⟨b, o, e, hb, fun j hj => by rw [hcell j hj, (hf j hj).1]⟩

/-- A slice of pairs of numbers: its cells by their index. -/
def PairsIn (W : World) (A : Option Addr) (n : Nat) (k : IntKind) (f g : Nat → Int) : Prop := 0 < n → ∃ b o, A = some ⟨b, o, none⟩ ∧ b < W.heap.size ∧ ∀ j, j < n → W.cell? ⟨b, o + j * 2, none⟩ = some (.int k (f j)) ∧ W.cell? ⟨b, o + j * 2 + 1, none⟩ = some (.int k (g j))
theorem open_pairs {t a e : TypeId} {k : IntKind} {r : Reach} {b0 : Nat} {v : Value} {d : DataW H} {p : List MemPlace} (ht : P.underlying t = some (.slice a)) (ha : P.underlying a = some (.array 2 e)) (he : P.underlying e = some (.int k)) (hca : P.cellsOf a = 2) (hce : P.cellsOf e = 1) (hv : Value.okWide P W r b0 t v)
    (h : DataW.Trod enc P W 0 (fun _ => true) true t v d p) :
    ∃ A n c, ∃ f g : Nat → Int, v = .slice A n c ∧ n ≤ maxLen ∧ PairsIn W A n k f g ∧ ∀ j, j < n → (Lit.int k (f j)).wf = true ∧ (Lit.int k (g j)).wf = true := by
  obtain ⟨A, n, c, rfl⟩ := okWide_slice ht hv
  obtain ⟨fuel, hf⟩ := h
  rcases open_slice ht hf with ⟨h0, _⟩ | ⟨ad, len, cap, m, q, D, Pl, hcs, _, hl, hm, hmm, _, hi⟩
  · have h1 : (Value.slice A n c) = .slice none 0 0 := by simpa [Value.cells] using h0
    injection h1 with h1 h2 h3
    subst h1 h2 h3
    exact ⟨none, 0, 0, fun _ => 0, fun _ => 0, rfl, Nat.zero_le _, fun h => absurd h (by omega), fun j hj => absurd hj (by omega)⟩
  · have h1 : (Value.slice A n c) = .slice (some ad) len cap := by simpa [Value.cells] using hcs
    injection h1 with h1 h2 h3
    subst h1 h2 h3
    simp only [if_true] at hmm
    subst hmm
    rw [hca] at hi
    have hx : ∀ j, j < n → ∃ z : Int × Int, W.cell? (ad.add (j * 2)) = some (.int k z.1) ∧ W.cell? (ad.add (j * 2 + 1)) = some (.int k z.2) ∧ (Lit.int k z.1).wf = true ∧ (Lit.int k z.2).wf = true := fun j hj => by
      obtain ⟨cs', hc', ht'⟩ := hi j (by omega)
      obtain ⟨xs, q', _, _, hlen, hxl, hel⟩ := DataW.trod_array ha ht'
      obtain ⟨_, hcl, hat⟩ := World.cells?_some hc'
      rw [hce] at hel
      have e0 := hel 0 (by omega)
      have e1 := hel 1 (by omega)
      match cs', hcl with
      | [u0, u1], _ =>
        have hx0 : xs[0]? = some (xs[0]'(by omega)) := List.getElem?_eq_getElem (by omega)
        have hx1 : xs[1]? = some (xs[1]'(by omega)) := List.getElem?_eq_getElem (by omega)
        obtain ⟨z0, g0, _, w0⟩ := DataW.trod_int he ((by simpa using e0.trans hx0) : DataW.trod enc P W 0 (fun _ => true) true q' e [u0] = some (xs[0]'(by omega)))
        obtain ⟨z1, g1, _, w1⟩ := DataW.trod_int he ((by simpa using e1.trans hx1) : DataW.trod enc P W 0 (fun _ => true) true q' e [u1] = some (xs[1]'(by omega)))
        have a0 := hat 0 (by simp)
        have a1 := hat 1 (by simp)
        rw [Go.Deep.add_add] at a0 a1
        refine ⟨(z0, z1), ?_, ?_, w0, w1⟩
        · rw [Nat.add_zero] at a0
          rw [a0]
          have : u0 = .int k z0 := by simpa using g0
          simp [this]
        · rw [a1]
          have : u1 = .int k z1 := by simpa using g1
          simp [this]
    obtain ⟨z, hz⟩ := choose_lt (α := Int × Int) hx
    refine ⟨some ad, n, m, fun j => (z j).1, fun j => (z j).2, rfl, Nat.le_trans hl hm, fun hn => ?_, fun j hj => ⟨(hz j hj).2.2.1, (hz j hj).2.2.2⟩⟩
    have h0 := (hz 0 (by omega)).1
    have ha0 : ad.add (0 * 2) = ad := by unfold Addr.add; simp
    rw [ha0] at h0
    obtain ⟨e1, e2⟩ := spot_none h0
    refine ⟨ad.block, ad.off, by rw [← e1], e2, fun j hj => ?_⟩
    obtain ⟨g1, g2, _⟩ := hz j hj
    rw [e1, Addr.add_mid] at g1 g2
    exact ⟨g1, by rw [Nat.add_assoc]; exact g2⟩
theorem PairsIn.later {W W' : World} {A : Option Addr} {n : Nat} {k : IntKind} {f g : Nat → Int} (h : PairsIn W A n k f g) (hb : Below W.heap.size W W') : PairsIn W' A n k f g := fun hn => by
  obtain ⟨b, o, e, hlt, hc⟩ := h hn
  exact ⟨b, o, e, Nat.lt_of_lt_of_le hlt hb.size, fun j hj => ⟨(hb.cell (p := ⟨b, o + j * 2, none⟩) hlt).trans (hc j hj).1, (hb.cell (p := ⟨b, o + j * 2 + 1, none⟩) hlt).trans (hc j hj).2⟩⟩
end
end Go.Proofs.Ytfhdckmpodmejaa
