/- The program's New, Now, Len and Find. -/
import Derived.Test.YtogfpakopckfoaaWpC
import Derived.Test.YtogfpakopckfoaaWhK
namespace Go.Proofs.Ytogfpakopckfoaa.Wl
open Go.RowKit Go.Lib Go.Maps
open Sp
set_option linter.unusedVariables false
set_option maxRecDepth 100000

def allP : En → Bool := fun _ => true
/-- The wheel at rest: all its timers stand where they are to stand. -/
def WI (g : Nat) (s : Wh) : Sp.Item :=
  ⟨fun w G => ∃ A, (AOk A ∧ A.map En.t = s.l ∧ s.t = ((s.t.toNat : Nat) : Int)) ∧ (wI g s.t.toNat A A allP).holds w G,
   fun ⟨A, h1, h2⟩ hs hz => ⟨A, h1, (wI g s.t.toNat A A allP).stable h2 hs hz⟩,
   fun ⟨A, h1, h2⟩ b hb => (wI g s.t.toNat A A allP).lt h2 b hb⟩
section
variable {W w w' : World} {items : List Sp.Item} {k g : Nat} {s : Wh}
theorem WI_open (h : Sp.Sep W w items) (hk : items[k]? = some (WI g s)) : ∃ A, AOk A ∧ A.map En.t = s.l ∧ s.t = ((s.t.toNat : Nat) : Int) ∧ Sp.Sep W w (items.set k (wI g s.t.toNat A A allP)) := by
  obtain ⟨G, ⟨A, ⟨h1, h2, h3⟩, h4⟩, _, _, put⟩ := h.at_ k hk
  exact ⟨A, h1, h2, h3, put w G _ h4 (Grew.refl _ _) (Only.refl _ _)⟩
theorem WI_shut {t : Nat} {A : List En} (h : Sp.Sep W w items) (hk : items[k]? = some (wI g t A A allP)) (hA : AOk A) : Sp.Sep W w (items.set k (WI g ⟨(t : Int), A.map En.t⟩)) := by
  obtain ⟨G, h4, _, _, put⟩ := h.at_ k hk
  refine put w G _ ⟨A, ⟨hA, rfl, by simp⟩, ?_⟩ (Grew.refl _ _) (Only.refl _ _)
  simpa using h4
theorem set_at {x : Sp.Item} (hk : items[k]? = some x) (y : Sp.Item) : (items.set k y)[k]? = some y := List.getElem?_set_self (List.getElem?_eq_some_iff.1 hk).1

theorem now_any (h : Sp.Sep W w items) (hk : items[k]? = some (WI g s)) : Calls Try.prog 18 #[.pointer (some ⟨g, 0, none⟩)] w fun e w' => e = .returned (.int .u64 s.t) ∧ Below w.heap.size w w' := by
  obtain ⟨A, hA, hl, ht, h1⟩ := WI_open h hk
  obtain ⟨ma, mf, v, sl, hM⟩ := wI_at h1 (set_at hk _)
  have x0 : w.cell? ⟨g, 0, none⟩ = some (.int .u64 s.t) := (hM.blk.cell 0).trans (by rw [wh0, ← ht])
  clear h hk hA hl ht h1 hM
  go_enter Try.func18, Try.ntmps18
  go_wp2_with fail
  go_ret
  exact ⟨rfl, Below.refl _ _⟩
theorem len_any (h : Sp.Sep W w items) (hk : items[k]? = some (WI g s)) : Calls Try.prog 20 #[.pointer (some ⟨g, 0, none⟩)] w fun e w' => e = .returned (.int .i64 (s.l.length : Nat)) ∧ Below w.heap.size w w' := by
  obtain ⟨A, hA, hl, ht, h1⟩ := WI_open h hk
  obtain ⟨ma, mf, v, sl, hM⟩ := wI_at h1 (set_at hk _)
  have x1 : w.cell? ⟨g, 1, none⟩ = some (.map (some ma)) := (hM.blk.cell 1).trans (wh1 _ _ _ _)
  obtain ⟨D, hD, hMD⟩ := hM.am
  have hlen : s.l.length = A.length := by rw [← hl, List.length_map]
  have hz := hMD.sz
  rw [hlen]
  have hlr := fun ty => hD.len (t := 61) Try.underlying61 ty
  rw [hz] at hlr
  clear h hk hA hl ht h1 hM hD hMD hz hlen
  go_enter Try.func20, Try.ntmps20
  go_wp2_with fail
  go_ret
  exact ⟨rfl, Below.refl _ _⟩
theorem look_en {L : List En} {b : Nat} (h : MapL w b L) {i : ByteArray} (hi : i.size ≤ 1000) (hL : (L.map En.key).Nodup) :
    (∃ e ∈ L, e.key = i.toList ∧ (Instr.lookup 61 (.map (some b)) (.string i) true).run Try.prog w = .ok (.tuple #[.pointer (some ⟨e.b, 0, none⟩), .bool true]) w) ∨
    ((∀ e ∈ L, e.key ≠ i.toList) ∧ (Instr.lookup 61 (.map (some b)) (.string i) true).run Try.prog w = .ok (.tuple #[.pointer none, .bool false]) w) := by
  obtain ⟨D, hD, hMD⟩ := h
  obtain ⟨v, ps, hrun, hv⟩ := hD.look_ok (t := 61) strK Try.underlying61 (z := .pointer none) (Try.zeroValue75 w) (zd := .nil) (zp := []) rfl (key_str hi)
  by_cases hx : ∃ e ∈ L, e.key = i.toList
  · obtain ⟨e, he, hk⟩ := hx
    left
    refine ⟨e, he, hk, ?_⟩
    have h1 := hMD.some_ e he .nil
    have h2 := hMD.has he
    rw [hk] at h1 h2
    rw [h1] at hv
    rw [h2] at hrun
    rw [hrun, ptrR_held hv]
  · have hn : ∀ e ∈ L, e.key ≠ i.toList := fun e he hk => hx ⟨e, he, hk⟩
    right
    refine ⟨hn, ?_⟩
    have h1 := hMD.none_ _ hn .nil
    have h2 := hMD.hasn hn
    rw [h1] at hv
    rw [h2] at hrun
    rw [hrun, ptrR_nil hv]
theorem find_map {A : List En} {x : Key} (hk : (A.map En.key).Nodup) {e : En} (he : e ∈ A) (hx : e.key = x) : find (A.map En.t) x = some e.t := by
  unfold find
  induction A with
  | nil => cases he
  | cons a A ih =>
    rw [List.map_cons, List.nodup_cons] at hk
    rw [List.map_cons, List.find?_cons]
    rcases List.mem_cons.1 he with rfl | he'
    · rw [show e.t.key = x from hx]
      simp
    · have hne : a.t.key ≠ x := fun e2 => hk.1 (List.mem_map.2 ⟨e, he', by rw [hx]; exact e2.symm⟩)
      simp only [hne, decide_false]
      exact ih hk.2 he'
theorem find_no {A : List En} {x : Key} (hx : ∀ e ∈ A, e.key ≠ x) : find (A.map En.t) x = none := by
  rw [find_none]
  intro t ht
  obtain ⟨e, he, rfl⟩ := List.mem_map.1 ht
  exact hx e he
theorem find_any (i : ByteArray) (h : Sp.Sep W w items) (hk : items[k]? = some (WI g s)) (hi : i.size ≤ 1000) : Calls Try.prog 26 #[.pointer (some ⟨g, 0, none⟩), .string i] w fun e w' => e = .returned (.tuple #[.int .u64 (match find s.l i.toList with | some t => t.d | none => 0), .bool (find s.l i.toList).isSome]) ∧ Below w.heap.size w w' := by
  obtain ⟨A, hA, hl, ht, h1⟩ := WI_open h hk
  obtain ⟨ma, mf, v, sl, hM⟩ := wI_at h1 (set_at hk _)
  have x1 : w.cell? ⟨g, 1, none⟩ = some (.map (some ma)) := (hM.blk.cell 1).trans (wh1 _ _ _ _)
  rw [← hl]
  rcases look_en hM.am hi hA.k with ⟨e, he, hek, hrun⟩ | ⟨hn, hrun⟩
  · obtain ⟨z, _, hz⟩ := hM.ent e he
    rw [find_map hA.k he hek]
    have y1 : w.cell? ⟨e.b, 1, none⟩ = some (.int .u64 e.t.d) := hz.cell 1
    clear h hk hA hl ht h1 hM he hek hz
    go_enter Try.func26, Try.ntmps26
    go_wp2_with fail
    refine bodyPost_ret (results_tmp2 rfl _ _ _) rfl ?_
    exact ⟨rfl, Below.refl _ _⟩
  · rw [find_no hn]
    clear h hk hA hl ht h1 hM hn
    go_enter Try.func26, Try.ntmps26
    go_wp2_with fail
    refine bodyPost_ret (results_tmp2 rfl _ _ _) rfl ?_
    exact ⟨rfl, Below.refl _ _⟩
theorem new_cs (t ma mf : Nat) : ((Try.zeroCells66.setIfInBounds 0 (.int .u64 (t : Int))).setIfInBounds 1 (.map (some ma))).setIfInBounds 66 (.map (some mf)) = whC t ma mf (fun _ => .slice none 0 0) := by rfl
theorem new_sep (h : Sp.Sep W w items) (t : Nat) : Sp.Sep W (((w.alloc (.map #[] 0)).alloc (.map #[] 0)).alloc (.cells (whC t w.heap.size (w.heap.size + 1) (fun _ => .slice none 0 0)) 66)) (items ++ [WI (w.heap.size + 1 + 1) ⟨(t : Int), []⟩]) := by
  have hb : Below w.heap.size w (((w.alloc (.map #[] 0)).alloc (.map #[] 0)).alloc (.cells (whC t w.heap.size (w.heap.size + 1) (fun _ => .slice none 0 0)) 66)) :=
    (((Below.refl w.heap.size w).alloc (Nat.le_refl _) (.map #[] 0)).alloc (by simp) (.map #[] 0)).alloc (by simp; omega) _
  have e2 : ((w.alloc (.map #[] 0)).alloc (.map #[] 0)).heap.size = w.heap.size + 1 + 1 := by simp
  have e1 : (w.alloc (.map #[] 0)).heap.size = w.heap.size + 1 := by simp
  have m1 := ((World.ownsMap_made w Try.prog 9 ptrR).alloc (.map #[] 0)).alloc (.cells (whC t w.heap.size (w.heap.size + 1) (fun _ => .slice none 0 0)) 66)
  have m2 := (World.ownsMap_made (w.alloc (.map #[] 0)) Try.prog 9 ptrR).alloc (.cells (whC t w.heap.size (w.heap.size + 1) (fun _ => .slice none 0 0)) 66)
  rw [e1] at m2
  refine h.new (WI _ ⟨(t : Int), []⟩) (G := Foot (w.heap.size + 1 + 1) w.heap.size (w.heap.size + 1) (fun _ => .slice none 0 0) []) ⟨[], ⟨⟨List.nodup_nil, List.nodup_nil, by simp, (fun e he => by cases he), (fun e he => by cases he)⟩, rfl, by simp⟩, ?_⟩ ?_ hb
  · refine ⟨w.heap.size, w.heap.size + 1, fun _ => .slice none 0 0, fun _ => [], ?_, fun b => Iff.rfl⟩
    exact {
      blk := Sp.Blk.at_ _ _ _ e2
      am := ⟨_, m1, MD.nil⟩
      fm := ⟨_, m2, MD.nil⟩
      ne := by omega
      ent := fun e he => by cases he
      row := fun k hk => World.ownsRow_nil _ _ _ _
      at_ := fun k hk j e hj => by simp at hj
      per := fun k hk => List.Perm.refl _
      own := fun k k' _ _ _ b hb => by cases hb }
  · rintro b (rfl | rfl | rfl | ⟨e, he, rfl⟩ | ⟨k, hk, hb⟩)
    · omega
    · omega
    · omega
    · cases he
    · cases hb
theorem new_any (t : Int) (h : Sp.Sep W w items) (ht : 0 ≤ t ∧ t < 18446744073709551616) : Calls Try.prog 10 #[.int .u64 t] w fun e w' => ∃ g, e = .returned (.pointer (some ⟨g, 0, none⟩)) ∧ Sp.Sep W w' (items ++ [WI g ⟨t, []⟩]) := by
  have hmm : ∀ w : World, (Instr.makeMap 61 none).run Try.prog w = .ok (.map (some w.heap.size)) (w.alloc (.map #[] 0)) := fun _ => run_makeMap _ _
  have HS := Lib.hid h
  have HT := Lib.hid ht
  clear h ht
  go_enter Try.func10, Try.ntmps10
  go_wp2_with fail
  go_ret
  refine ⟨_, rfl, ?_⟩
  obtain ⟨t, rfl⟩ : ∃ n : Nat, (n : Int) = t := ⟨t.toNat, by have := HT.out; omega⟩
  rw [new_cs]
  exact new_sep HS.out t
end
end Go.Proofs.Ytogfpakopckfoaa.Wl
