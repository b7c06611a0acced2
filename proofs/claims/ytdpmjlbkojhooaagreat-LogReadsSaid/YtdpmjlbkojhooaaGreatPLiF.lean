/- A part of the proofs of the statements about logs. -/
import Derived.Test.YtdpmjlbkojhooaaGreatPLiD
import Derived.Test.YtdpmjlbkojhooaaGreatPLgR
namespace Go.Proofs.YtdpmjlbkojhooaaGreat.Lg
open Go.ChangeShapes Go.WideShapes Go.ChangeAt Go.RowKit Go.Lib Go.Joins Go.Deep
open Tb (Tab TIn Sl okP csT lastN nth Fresh)
open Dk (St Only Grew)
set_option linter.unusedVariables false
set_option maxRecDepth 100000
structure RI where
  p1 : Int
  p2 : Int
  l : Int
  l0 : Int
  e0 : Int
  k : Int
  v : Int
  d : Int
  i : ByteArray
  a : ByteArray
instance : Inhabited RI := ⟨⟨0, 0, 0, 0, 0, 0, 0, 0, .empty, .empty⟩⟩
def RI.c2 (r : RI) : List Value := [.int .i64 r.p1, .int .i64 r.p2]
def RI.c7 (r : RI) : List Value := [.int .u64 r.l0, .int .u32 r.e0, .int .i64 r.k, .int .u64 r.v, .int .u64 r.d, .string r.i, .string r.a]
def RI.rc (r : RI) : Rc.Rec := ⟨r.l, 1, r.k, r.v, r.d, r.i.data.toList, r.a.data.toList⟩
theorem flat_get {α : Type} (f : α → List Value) (c : Nat) (hf : ∀ x, (f x).length = c) : ∀ (L : List α) (j : Nat) (x : α) (k : Nat), L[j]? = some x → k < c → (L.flatMap f)[j * c + k]? = (f x)[k]?
  | [], j, x, k, h, _ => by simp at h
  | y :: L, 0, x, k, h, hk => by
    have e : y = x := by simpa using h
    subst e
    rw [List.flatMap_cons, Nat.zero_mul, Nat.zero_add, List.getElem?_append_left (by rw [hf]; exact hk)]
  | y :: L, j + 1, x, k, h, hk => by
    have h' : L[j]? = some x := by simpa using h
    rw [List.flatMap_cons, List.getElem?_append_right (by rw [hf, Nat.add_mul]; omega), hf, show (j + 1) * c + k - c = j * c + k by rw [Nat.add_mul]; omega]
    exact flat_get f c hf L j x k h' hk
def rowS (e : TypeId) (sz : Nat) (v : Value) (n : Nat) (xs : List Value) : Dk.Item := ⟨fun w G => w.ownsRow 0 e sz v n xs ∧ ∀ b, G b ↔ v.ownBlock = some b, fun ⟨h, hG⟩ hs hz => ⟨Dk.own_same h (fun g hg => hs g ((hG g).2 hg)), hG⟩, fun ⟨h, hG⟩ b hb => (h.lt b ((hG b).1 hb)).2⟩
section
variable {W w : World} {items : List Dk.Item}
theorem rows_lit (h : Dk.Sep W w items) (t : TypeId) (sz : Nat) : Dk.Sep W (w.alloc (.cells #[] t)) (items ++ [rowS t sz (.slice (some ⟨w.heap.size, 0, none⟩) 0 0) 0 []]) := by
  refine h.new _ (G := fun b => b = w.heap.size) ⟨World.ownsRow_lit w #[] 0 (Nat.zero_le _) (Nat.zero_le _) (by simp), fun b => ?_⟩ (fun b hb => by omega) ((Below.refl _ _).alloc (Nat.le_refl _) _)
  simp [Value.ownBlock, eq_comm]
theorem rows_slice (h : Dk.Sep W w items) {k : Nat} {t : TypeId} {sz : Nat} {v : Value} {n : Nat} {xs : List Value} (hk : items[k]? = some (rowS t sz v n xs)) : ∃ A p, v = .slice A n p := by
  obtain ⟨G, ⟨hrow, _⟩, _⟩ := h.at_ k hk
  rcases hrow.2 with ⟨rfl, rfl⟩ | ⟨g, cap, cur, rfl, _⟩
  · exact ⟨_, _, rfl⟩
  · exact ⟨_, _, rfl⟩
theorem rows_cell (h : Dk.Sep W w items) {k : Nat} {t : TypeId} {sz : Nat} {A : Option Addr} {p n : Nat} {xs : List Value} (hk : items[k]? = some (rowS t sz (.slice A n p) n xs)) (hn : 0 < n) : ∃ g, A = some ⟨g, 0, none⟩ ∧ ∀ j, j < n * sz → w.cell? ⟨g, j, none⟩ = xs[j]? := by
  obtain ⟨G, ⟨hrow, _⟩, _⟩ := h.at_ k hk
  rcases hrow.2 with ⟨_, rfl⟩ | ⟨g, cap, cur, e, _, hg, _, _, _, hx⟩
  · omega
  · injection e with e1 e2 e3
    refine ⟨g, e1, fun j hj => ?_⟩
    rw [← hx, List.getElem?_take_of_lt hj, cell_of_row w g j cur t (0, 0) hg]
    simp
theorem wp_append_s {ops : Array Oper} {rest : List Oper} {o : Oper} {a : Act} {w0 : World} {Q : Exit → Act → World → Prop} {n : Nat} {v : Value} {xs cs : List Value} {e t : TypeId} {sz bytes : Nat} {z : Value} (hinfo : (Tryz.prog.info? e).map (fun i => (i.zero, i.size, i.bytes)) = some (some z, sz, bytes)) (hzs : z.cells.size = sz) (hsz : 0 < sz) (hby : bytes ≤ 1000)
    (ht : Tryz.prog.underlying t = some (.slice e)) (hgd : o.guard = none) (sx xx : Operand)
    (ho : o.op = .call { callee := .builtin .append, args := #[sx, xx], argTypes := #[t, t] }) (hs : a.eval sx = v) (hx : a.eval xx = .slice (some ⟨w0.heap.size, 0, none⟩) 1 1) (h0 : Dk.Sep W w0 items) (k : Nat) (hk : items[k]? = some (rowS e sz v n xs)) (hn : n < 1000) (hl : cs.length = sz) (h1c : ∀ u ∈ cs, u.oneCell' = true)
    (h : ∀ v' w', Dk.Sep W w' (items.set k (rowS e sz v' (n + 1) (xs ++ cs))) → wpList Tryz.prog ops Q rest (a.put o.dst v') w') : wpList Tryz.prog ops Q (o :: rest) a (w0.alloc (.cells cs.toArray e)) := by
  obtain ⟨i0, hi0, hz0, hz1, hz2⟩ := info_parts hinfo
  have h1 := h0.alloc (.cells cs.toArray e)
  obtain ⟨G, ⟨hrow, hG⟩, _, _, hstep⟩ := h1.at_ k hk
  have hb : (n + 1) * bytes ≤ 140737488355328 := Nat.le_trans (Nat.mul_le_mul (show n + 1 ≤ 1000 by omega) hby) (by decide)
  refine wpList_append_own_at _ hgd sx xx _ ho 0 e i0 _ sz bytes ht hi0 hz0 hz1 hz2 hzs hsz v n xs hs hrow ⟨w0.heap.size, 0, none⟩ 1 1 cs hx (by omega) (fun j u hj => ?_) h1c
    (by unfold maxLen; omega) hb (Nat.zero_le _) ?_
  · have := (Tb.Blk.new w0 e cs.toArray).cell j
    rw [show (⟨w0.heap.size, 0, none⟩ : Addr).add j = ⟨w0.heap.size, j, none⟩ by unfold Addr.add; by_cases h : j = 0 <;> simp [h], this]
    simpa using hj
  intro v' w' hown hg _ hat
  refine h v' w' (hstep w' (fun b => v'.ownBlock = some b) _ ⟨hown, fun b => Iff.rfl⟩ (fun b hb => ?_) ((Only.refl _ _).grown hg (fun q hq => .inl ((hG q).2 hq))))
  rcases hat with e | e
  · left; exact (hG b).2 (e ▸ hb)
  · right; rw [e] at hb; injection hb with hb; omega
end
theorem loc_infos : (Tryz.prog.info? 67).map (fun i => (i.zero, i.size, i.bytes)) = some (some (.agg #[.int .i64 0, .int .i64 0]), 2, 16) := by kernel_rfl
theorem rec_infos : (Tryz.prog.info? 46).map (fun i => (i.zero, i.size, i.bytes)) = some (some (.agg #[.int .u64 0, .int .u32 0, .int .i64 0, .int .u64 0, .int .u64 0, .string ⟨#[]⟩, .string ⟨#[]⟩]), 7, 72) := by kernel_rfl
structure RI.Ok (o : RI) : Prop where
  v : 0 ≤ o.v ∧ o.v < 18446744073709551616
  d : 0 ≤ o.d ∧ o.d < 18446744073709551616
  i : o.i.size ≤ maxLen
  a : o.a.size ≤ maxLen
def RecsIn (W : World) (A : Option Addr) (n : Nat) (f : Nat → RI) : Prop :=
  (∀ j, j < n → (f j).Ok) ∧ (0 < n → ∃ b o, A = some ⟨b, o, none⟩ ∧ b < W.heap.size ∧ ∀ j, j < n → ∀ i, i < 7 → W.cell? ⟨b, o + j * 7 + i, none⟩ = (f j).c7[i]?)
section
variable {H : Type} {enc : TypeId × Value → H} {W : World}
theorem rec_at {a : Addr} {fuel : Nat} {cs : List Value} {x : DataW H × List MemPlace} (hl : cs.length = 7) (hat : ∀ j, j < 7 → W.cell? (a.add j) = cs[j]?)
    (h : DataW.trod enc Tryz.prog W 0 (fun _ => true) true fuel 46 cs = some x) :
    ∃ o : RI, o.Ok ∧ ∀ j, j < 7 → W.cell? (a.add j) = o.c7[j]? := by
  match cs, hl with
  | [v0, v1, v2, v3, v4, v5, v6], _ =>
    obtain ⟨l, e, k, v, d, i, z, e1, e2, e3, e4, e5, e6, e7, b1, b2, b3, b4⟩ := rec_cells h
    subst e1 e2 e3 e4 e5 e6 e7
    exact ⟨⟨0, 0, 0, l, e, k, v, d, i, z⟩, ⟨b1, b2, b3, b4⟩, hat⟩
theorem open_recs {r : Reach} {b0 : Nat} {v : Value} {d : DataW H} {p : List MemPlace} (hv : Value.okWide Tryz.prog W r b0 56 v)
    (h : DataW.Trod enc Tryz.prog W 0 (fun _ => true) true 56 v d p) :
    ∃ (A : Option Addr) (n c : Nat) (f : Nat → RI), v = .slice A n c ∧ n ≤ maxLen ∧ RecsIn W A n f := by
  have ht := Tryz.underlying56
  obtain ⟨A, n, c, rfl⟩ := okWide_slice ht hv
  obtain ⟨fuel, hf⟩ := h
  have hca : Tryz.prog.cellsOf 46 = 7 := by kernel_rfl
  rcases open_slice ht hf with ⟨h0, _⟩ | ⟨ad, len, cap, m, q, D, Pl, hcs, _, hl, hm, hmm, _, hi⟩
  · have h1 : (Value.slice A n c) = .slice none 0 0 := by simpa [Value.cells] using h0
    injection h1 with h1 h2 h3
    subst h1 h2 h3
    exact ⟨none, 0, 0, fun _ => default, rfl, Nat.zero_le _, fun j hj => absurd hj (by omega), fun h => absurd h (by omega)⟩
  · have h1 : (Value.slice A n c) = .slice (some ad) len cap := by simpa [Value.cells] using hcs
    injection h1 with h1 h2 h3
    subst h1 h2 h3
    simp only [if_true] at hmm
    subst hmm
    rw [hca] at hi
    have hx : ∀ j, j < n → ∃ z : RI, z.Ok ∧ ∀ i, i < 7 → W.cell? ((ad.add (j * 7)).add i) = z.c7[i]? := fun j hj => by
      obtain ⟨cs', hc', ht'⟩ := hi j (by omega)
      obtain ⟨_, hcl, hat⟩ := World.cells?_some hc'
      exact rec_at hcl (fun i hi => hat i hi) ht'
    obtain ⟨z, hz⟩ := choose_lt (α := RI) hx
    refine ⟨some ad, n, m, z, rfl, Nat.le_trans hl hm, fun j hj => (hz j hj).1, fun hn => ?_⟩
    have h0 := (hz 0 (by omega)).2 0 (by omega)
    have ha0 : (ad.add (0 * 7)).add 0 = ad := by unfold Addr.add; simp
    rw [ha0] at h0
    obtain ⟨e1, e2⟩ := spot_none h0
    refine ⟨ad.block, ad.off, by rw [← e1], e2, fun j hj i hi => ?_⟩
    have c0 := (hz j hj).2 i hi
    rw [e1] at c0
    simp only [Addr.add_mid, Nat.add_assoc] at c0
    simp only [Nat.add_assoc]
    exact c0
end
theorem used_fix {w : World} {t : Tab} {A : Option Addr} {m p : Nat} {B : Option Addr} {k q : Nat} {C : Option Addr} {n r : Nat} (h : TIn w A m B k C n t.o t.l t.f) (hok : okP t) : Calls Tryz.prog 29 #[.agg #[.int .i64 t.sg, .int .i64 t.st, .slice A m p, .slice B k q, .slice C n r]] w fun e w' => e = .returned (.int .i64 (Tb.usedT t)) ∧ Below w.heap.size w w' :=
  Tb.used_is t.sg t.st A m p B k q C n r t.o t.l t.f _ w h ⟨by have := Tb.ok_bd hok; omega, fun x hx => by have h1 := hok.2.2.2.2.2.1 x hx; have h2 := hok.2.1; omega⟩ rfl
structure Got (t : Tab) (s : St) (ls : Int) (L : List RI) : Prop where
  st : ∀ r ∈ L, Stands t s ((r.p1, r.p2), r.rc)
  up : L.Pairwise (fun a b => a.l < b.l)
  bd : ∀ r ∈ L, 0 < r.l ∧ r.l < ls
  used : Tb.usedT t = L.length
theorem got_new {G Z : Int} {s : St} {t : Tab} (h : NewL G Z s t) : Got t s 1 [] :=
  ⟨fun _ h => absurd h List.not_mem_nil, List.Pairwise.nil, fun _ h => absurd h List.not_mem_nil, by have := h.fill.used; rw [this]; simp⟩
theorem Got.next {c : Nat} {t : Tab} {s : St} {ls K V D : Int} {I X : ByteArray} {L : List RI} (h : Got t s ls L) (hP : LogP c t s ls 1) (hc : c ≤ 1000) (hnd : s.set = false) (hr : 0 < Tb.roomT t) (hK : K ≠ 3) (hV : 0 ≤ V ∧ V < 18446744073709551616) (hD : 0 ≤ D ∧ D < 18446744073709551616) (hR : Rc.okR ⟨ls, 1, K, V, D, I.data.toList, X.data.toList⟩ = true) (l0 e0 : Int) :
    ∃ s1 t1 l1 sg so, appS t s ls 1 K V D I X = (s1, t1, l1, sg, so, 0) ∧ s1.set = false ∧ Got t1 s1 l1 (L ++ [⟨sg, so, l1 - 1, l0, e0, K, V, D, I, X⟩]) := by
  obtain ⟨s1, t1, l1, sg, so, E, hs1, _, hu, hl1, _, _, hS⟩ := app_yes hP hc (ep := 1) ⟨by decide, by decide⟩ hnd hr hK hV hD hR
  have hold : ∀ r ∈ L, Stands t1 s1 ((r.p1, r.p2), r.rc) := fun r hr => by
    have := app_stands (ep := 1) (K := K) (V := V) (D := D) (I := I) (X := X) (h.st r hr) hP
    rw [E] at this
    exact this
  have g1 := hP.ls1
  refine ⟨s1, t1, l1, sg, so, E, hs1, fun r hr => ?_, ?_, fun r hr => ?_, ?_⟩
  · rcases List.mem_append.1 hr with h1 | h1
    · exact hold r h1
    · rw [List.mem_singleton] at h1
      subst h1
      exact hS
  · rw [List.pairwise_append]
    refine ⟨h.up, List.pairwise_singleton .., fun a ha b hb => ?_⟩
    rw [List.mem_singleton] at hb
    subst hb
    have := (h.bd a ha).2
    simp only
    omega
  · rcases List.mem_append.1 hr with h1 | h1
    · have := h.bd r h1
      omega
    · rw [List.mem_singleton] at h1
      subst h1
      simp only
      omega
  · rw [hu, h.used, List.length_append]
    simp
end Go.Proofs.YtdpmjlbkojhooaaGreat.Lg
