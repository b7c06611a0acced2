/- The program's IDs. -/
import Derived.Test.YtjdkgkllgapgjaaPxO
import Derived.Test.YtjdkgkllgapgjaaShelf
import Derived.Maps.RangeWalk
import Derived.Lib.OwnBridge
import Derived.Sort.KeysCollected
import Derived.Sort.OwnSorted
import Derived.Sort.Grow
namespace Go.Proofs.Ytjdkgkllgapgjaa.Px
open Go.RowKit Go.Lib Go.Maps
open Re (Rec Key new_cells rcA isL below_drewN key_total)
open Ix
open Sp
set_option linter.unusedVariables false
set_option linter.unusedSimpArgs false
set_option maxRecDepth 100000

abbrev rngs (w : World) (b r : Nat) (D : DataW Value) (left : Lit → Bool) (cnt : Nat) : Prop := w.ranges Try.prog 9 hR b r (Maps.size D) D left cnt
theorem rngs_same {w w' : World} {b r : Nat} {D : DataW Value} {left : Lit → Bool} {cnt : Nat} (h : rngs w b r D left cnt) (h1 : w'.heap[b]? = w.heap[b]?) (h2 : w'.heap[r]? = w.heap[r]?) : rngs w' b r D left cnt := by
  obtain ⟨es, clock, since, seen, c0, hb, F, hs, hD, hr, rest⟩ := h
  exact ⟨es, clock, since, seen, c0, h1.trans hb, F, hs, hD, h2.trans hr, rest⟩
def objI (r : Nat) (o : Obj) : Sp.Item :=
  ⟨fun w G => w.heap[r]? = some o ∧ ∀ c, G c ↔ c = r, fun ⟨h, hG⟩ hs _ => ⟨(hs r ((hG r).2 rfl)).trans h, hG⟩, fun ⟨h, hG⟩ b hb => by rw [(hG b).1 hb]; exact (Array.getElem?_eq_some_iff.1 h).1⟩
theorem key_inv {key : Value} {kl : Lit} (h : keyOf Try.prog 9 key = some kl) : ∃ x : ByteArray, key = .string x := by
  cases key <;> simp [keyOf, Try.underlying9, mapKey] at h
  exact ⟨_, rfl⟩
theorem key_is {x : ByteArray} {kl : Lit} (h : keyOf Try.prog 9 (.string x) = some kl) : kl = .string x.toList := by
  simp [keyOf, Try.underlying9, mapKey] at h
  rw [Lib.toList_data]
  exact h.2.symm
/-- Those that have come. -/
structure Came (L cs : List Nw) (left : Lit → Bool) : Prop where
  sub : ∀ a ∈ cs, a ∈ L
  nd : (cs.map Nw.key).Nodup
  lf : ∀ a ∈ L, left (.string a.key) = true ∨ a ∈ cs
  no : ∀ a ∈ cs, left (.string a.key) = false
theorem Came.len {L cs : List Nw} {left : Lit → Bool} (h : Came L cs left) : cs.length ≤ L.length := by
  haveI : DecidableEq Nw := fun a c => Classical.propDecidable _
  exact nodup_le (List.Pairwise.of_map Nw.key (fun _ _ h e => h (by rw [e])) h.nd) h.sub
theorem Came.step {L cs : List Nw} {left : Lit → Bool} (h : Came L cs left) {a : Nw} (ha : a ∈ L) (hl : left (.string a.key) = true) (hu : Up L) : Came L (cs ++ [a]) (fun z => left z && !z.sameKey (.string a.key)) := by
  have hna : ∀ b ∈ cs, b.key ≠ a.key := fun b hb e => by
    have := h.no b hb
    rw [e, hl] at this
    cases this
  refine ⟨fun b hb => ?_, ?_, fun b hb => ?_, fun b hb => ?_⟩
  · rcases List.mem_append.1 hb with hb | hb
    · exact h.sub b hb
    · simp only [List.mem_singleton] at hb
      subst hb
      exact ha
  · rw [List.map_append, List.nodup_append]
    refine ⟨h.nd, by simp, fun x hx y hy e => ?_⟩
    obtain ⟨b, hb, rfl⟩ := List.mem_map.1 hx
    simp only [List.map_cons, List.map_nil, List.mem_singleton] at hy
    exact hna b hb (e.trans hy)
  · by_cases e : b.key = a.key
    · right
      rw [up_one hu hb ha e]
      simp
    · rcases h.lf b hb with h1 | h1
      · left
        rw [h1, Maps.sameKey_ne (fun e1 => e (by injection e1))]
        rfl
      · right
        exact List.mem_append_left _ h1
  · rcases List.mem_append.1 hb with hb | hb
    · simp [h.no b hb]
    · simp only [List.mem_singleton] at hb
      subst hb
      simp [WideAt.sameKey_self (show WideAt.IsKeyLit (.string b.key) by simp [WideAt.IsKeyLit])]
theorem Came.perm {L cs : List Nw} {left : Lit → Bool} (h : Came L cs left) (hl : ∀ z, left z = false) (hu : Up L) : cs.Perm L := by
  haveI : DecidableEq Nw := fun a c => Classical.propDecidable _
  refine (List.perm_ext_iff_of_nodup (List.Pairwise.of_map Nw.key (fun _ _ h e => h (by rw [e])) h.nd) ?_).2 fun a => ⟨h.sub a, fun ha => ?_⟩
  · exact hu.imp fun h1 e => by rw [e] at h1; exact List.lt_irrefl _ h1
  · rcases h.lf a ha with h1 | h1
    · rw [hl] at h1; cases h1
    · exact h1
theorem enc_str (a : ByteArray) : encStr a.toList = .string a := by
  unfold encStr
  rw [Lib.toList_data]
/-- What the sort leaves of a row of texts. -/
theorem sort_any {w0 w : World} {v : Value} {l : List ByteArray} (h : Sp.Sep w0 w [txI v l]) (hl : l.length ≤ 1000) :
    Calls Try.prog 21 #[v] w fun e w' => e = .returned (.tuple #[]) ∧ Below w0.heap.size w0 w' ∧ ∀ l' : List ByteArray, l'.Perm l → (l'.map ByteArray.toList).Pairwise (· ≤ ·) → WR w' v l' := by
  have hrow : w.ownsRow 0 9 1 v l.length (l.map .string) := rows_own h (k := 0) rfl
  obtain ⟨G, ⟨_, hG⟩, hGb, _, _⟩ := h.at_ 0 (it := txI v l) rfl
  by_cases hv : v = .slice none 0 0
  · subst hv
    have h0 : l = [] := by
      rcases hrow.2 with ⟨_, h1⟩ | ⟨g, cap, cur, h1, _⟩
      · exact List.eq_nil_of_length_eq_zero h1
      · cases h1
    subst h0
    refine (Sh.slices_Sort_string_none none 0 w).mono ?_
    rintro e w' ⟨rfl, rfl⟩
    refine ⟨rfl, h.below, fun l' hp _ => ?_⟩
    rw [List.perm_nil.1 hp]
    exact WR.of (e := 9) (World.ownsRow_nil _ _ _ _)
  · have hrow2 : w.ownsRow 0 9 1 v l.length ((l.map ByteArray.toList).map encStr) := by
      rw [List.map_map]
      rw [show (encStr ∘ ByteArray.toList) = Value.string from funext enc_str]
      exact hrow
    obtain ⟨g, cap, rfl, hbg, hgl, hncap, hcm, hlen, hH⟩ := Lib.holds_of_ownsRow hrow2 hv
    have hs := Sh.slices_Sort_string g 0 cap (l.map ByteArray.toList) w hH hgl (by rw [List.length_map]; omega)
    rw [List.length_map] at hs
    refine hs.mono ?_
    rintro e w' ⟨rfl, n, os, rfl⟩
    have hgw : w0.heap.size ≤ g := hGb g ((hG g).2 rfl)
    refine ⟨rfl, h.below.grown (grownBy_sorted _) h.below.size (fun j hj => by cases hj; exact hgw), fun l' hp hs' => ?_⟩
    rcases hrow.2 with ⟨h1, _⟩ | ⟨g', cap', cur, h1, hb1, hb2, hb3, hb4, hb5, hb6⟩
    · cases h1
    injection h1 with e1 e2 e3
    injection e1 with e1
    injection e1 with e1 _ _
    subst e1
    subst e3
    have hms : (l.map ByteArray.toList).mergeSort (fun x y => decide (x ≤ y)) = l'.map ByteArray.toList := by
      rw [mergeSort_of_perm (hp.map ByteArray.toList).symm]
      exact List.mergeSort_of_pairwise (hs'.imp fun h => by simpa [leB] using h)
    have hw := ownsRow_sorted (n := n) (os := os) (ss := l.map ByteArray.toList) (ts := (l.map ByteArray.toList).mergeSort fun x y => decide (x ≤ y)) (List.length_mergeSort _) (Nat.zero_le g) hb2 (by rw [List.length_map]; exact hb3) hb4 hb5
    rw [hms, List.length_map, List.map_map, show (encStr ∘ ByteArray.toList) = Value.string from funext enc_str] at hw
    have hwr := WR.of (l := l') (v := .slice (some ⟨g, 0, none⟩) l.length cap) (by rw [hp.length_eq]; exact hw)
    rw [hms]
    exact hwr
section
variable {W w w' : World} {items : List Sp.Item} {k g : Nat} {x : Idx} {t : St}
set_option maxHeartbeats 8000000 in
theorem ids_any (h : Sp.Sep W w items) (hk : items[k]? = some (XI g x)) (hG : Ix.Good x) :
    Calls Try.prog 10 #[.pointer (some ⟨g, 0, none⟩)] w fun e w' => ∃ v, e = .returned v ∧ Below w.heap.size w w' ∧ WR w' v (idsX x) := by
  obtain ⟨t, rfl, hS, hE, h1⟩ := XI_open h hk
  have hk1 := set_at hk (mI t)
  have x3 := ix3 h1 hk1
  have hmn : MF w 9 t.mn (sF fun k => (t.nw k).map enV) := (mI_at h1 hk1).ok .n
  have hmlt := hmn.lt
  obtain ⟨D, hD, hat⟩ := hmn
  have HE := Lib.hid hE
  have HG := Lib.hid hG
  have HAT : Hid (∀ i z, D.atKey (.string i) z = orH ((t.nw i).map enV) z) := Lib.hid (fun i z => hat (.string i) z)
  have HB : Hid (t.mn < w.heap.size) := Lib.hid hmlt
  have HH : Hid (∀ a ∈ x.L, Maps.has D (.string a.key) = true) := Lib.hid (fun a ha => by
    refine has_true_of_atKey (y := .held (enV a)) fun zz => ?_
    rw [hat]
    show orH ((t.nw a.key).map enV) zz = _
    rw [hE.nw, show x.L.find? (fun b => decide (b.key = a.key)) = some a from fnd_at hG.o ha]
    rfl)
  clear h hk hG hS hE h1 hk1 hmlt hat
  go_enter Try.func10, Try.ntmps10
  go_wp2_with (first
    | (at_range; refine wpList_range_own _ rfl _ 56 rfl 9 34 strK Try.underlying56 _ t.mn _ _ rfl hD ?_; intro w0 hrg0 hg0 hs0))
  go_frame
  obtain ⟨r, hr⟩ : ∃ r, w.heap.size = r := ⟨_, rfl⟩
  have HB0 : Hid (∀ w', Below w.heap.size w w' → w'.heap[t.mn]? = w.heap[t.mn]?) := Lib.hid (fun w' hb => hb.block _ HB.out)
  have HR : Hid (w.heap.size = r) := Lib.hid hr
  rw [hr] at hrg0
  rw [hr]
  have HS0 : Hid (∃ o, Sp.Sep w w0 [objI r o, txI (.slice none 0 0) []]) := Lib.hid (by
    have hb0 : Below w.heap.size w w0 := (Below.refl _ _).grown hg0 (Nat.le_refl _) (fun q hq => by cases hq)
    obtain ⟨o, ho⟩ : ∃ o, w0.heap[r]? = some o := ⟨_, Array.getElem?_eq_getElem (by omega)⟩
    have h1 := (Sp.Sep.nil (Below.refl w.heap.size w)).new (objI r o) (w' := w0) (G := fun c => c = r) ⟨ho, fun c => Iff.rfl⟩ (fun b hb => by rw [hb]; omega) hb0
    exact ⟨o, rows_nil h1 _ _⟩)
  have HC0 : Hid (Came x.L [] (Maps.has D)) := Lib.hid ⟨fun a ha => (by cases ha), List.nodup_nil, fun a ha => .inl (HH.out a ha), fun a ha => (by cases ha)⟩
  clear hg0 hs0 hr hD HH
  go_loopg [3] (Maps.size D) (fun gk s3 wr => ∃ (left : Lit → Bool) (cs : List Nw), Hid (Came x.L cs left) ∧ Hid (rngs wr t.mn r D left gk) ∧ Hid (∃ o, Sp.Sep w wr [objI r o, txI s3 ((cs.filter Nw.b).map Nw.i)]))
  case atStart => exact ⟨Maps.has D, [], HC0, Lib.hid hrg0, HS0⟩
  case round =>
    obtain ⟨left, cs, HC, HRG, HS⟩ := hrel
    clear HC0 HS0 hrg0 x3
    have hrg := HRG.out
    go_wp2_with (at_next; refine wpList_next_ranges _ rfl _ rfl 9 strK hR Value.string (fun v : Value => v) (fun key kl h => key_inv h) (fun v y h => ⟨v, rfl⟩) t.mn r _ _ _ _ rfl hrg ?_ ?_)
    · intro hc0 hl0
      obtain ⟨o, hs⟩ := HS.out
      have hcl := HC.out.len
      have hln : ((cs.filter Nw.b).map Nw.i).length ≤ 1000 := by
        have := List.length_filter_le Nw.b cs
        have := HG.out.m
        rw [List.length_map]
        omega
      have HSORT := Lib.hid (sort_any (sep_tail hs) hln)
      have HP : Hid ((idsX x).Perm ((cs.filter Nw.b).map Nw.i)) := Lib.hid (by
        unfold idsX
        exact (((HC.out.perm hl0 HG.out.o).filter _).map _).symm)
      have HO : Hid (((idsX x).map ByteArray.toList).Pairwise (· ≤ ·)) := Lib.hid (by
        unfold idsX
        rw [List.map_map, List.pairwise_map]
        exact (List.Pairwise.filter _ HG.out.o).imp fun h => List.le_of_lt h)
      clear hc0 hl0 hs hcl hln HC HRG HS hrg
      go_wp2_with (go_at_call 21; refine HSORT.out.mono ?_; rintro e3 w3 ⟨rfl, hb3, hw3⟩; have HB3 := Lib.hid hb3; have HW3 := Lib.hid hw3; clear hb3 hw3)
      go_ret
      exact ⟨_, rfl, HB3.out, HW3.out _ HP.out HO.out⟩
    · intro i c kl y ps w1 cnt1 hkey hlk hv hat hrg1 hlt1 hg1 hs1 hen
      have hkl := key_is hkey
      subst hkl
      have hcy : ∀ zd, orH ((t.nw i.toList).map enV) zd = .held c := fun zd => by
        rw [← HAT.out, hat]
        injection hv with hv
        injection hv with hv1 hv2
        exact hv1.symm
      obtain ⟨a, ha, rfl⟩ : ∃ a, t.nw i.toList = some a ∧ c = enV a := by
        have h5 := orH_inj (o := (t.nw i.toList).map enV) (o' := some c) hcy
        rw [Option.map_eq_some_iff] at h5
        obtain ⟨a, h6, h7⟩ := h5
        exact ⟨a, h6, h7.symm⟩
      rw [HE.out.nw] at ha
      obtain ⟨haL, hak⟩ := fnd_some (x := x) ha
      have hia : a.i = i := str_eq hak
      subst hia
      have HCN : Hid (Came x.L (cs ++ [a]) (fun z => left z && !z.sameKey (.string a.key))) := Lib.hid (HC.out.step haL hlk HG.out.o)
      obtain ⟨o, hs⟩ := HS.out
      obtain ⟨G0, ⟨ho0, hG0⟩, _, _, put⟩ := hs.at_ 0 (it := objI r o) rfl
      obtain ⟨o1, ho1⟩ : ∃ o1, w1.heap[r]? = some o1 := ⟨_, Array.getElem?_eq_getElem (by rw [hs1]; exact (Array.getElem?_eq_some_iff.1 ho0).1)⟩
      have hs2 : Sp.Sep w w1 [objI r o1, txI u3 ((cs.filter Nw.b).map Nw.i)] := put w1 G0 (objI r o1) ⟨ho1, hG0⟩ (Grew.refl _ _) ((Only.refl _ _).grown hg1 fun q hq => by injection hq with hq; subst hq; exact .inl ((hG0 _).2 rfl))
      have hs3 := hs2.alloc (.cells (enA a) 34)
      have hrg2 : rngs (w1.alloc (.cells (enA a) 34)) t.mn r D (fun z => left z && !z.sameKey (.string a.key)) cnt1 := hrg1.alloc _
      have hlen : ((cs.filter Nw.b).map Nw.i).length < 1000 := by
        have := HC.out.len
        have := List.length_filter_le Nw.b cs
        have := HG.out.m
        rw [List.length_map]
        omega
      have hfil : ((cs ++ [a]).filter Nw.b).map Nw.i = ((cs.filter Nw.b).map Nw.i) ++ if a.b then [a.i] else [] := by
        rw [List.filter_append, List.map_append]
        cases hb : a.b <;> simp [hb]
      change (Instr.entry (.pointer (some ⟨r, 0, none⟩))).run Try.prog w1 = .ok (.tuple #[.string a.i, .agg (enA a)]) w1 at hen
      cases hb : a.b with
      | false =>
        rw [hb] at hfil
        have HS6 : Hid (∃ o, Sp.Sep w (w1.alloc (.cells (enA a) 34)) [objI r o, txI u3 (((cs ++ [a]).filter Nw.b).map Nw.i)]) := Lib.hid ⟨o1, by rw [hfil]; simpa using hs3⟩
        have HRG6 := Lib.hid hrg2
        have hbb : (enA a)[2]? = some (.bool false) := by rw [← hb]; rfl
        clear hkey hlk hv hat hrg1 hg1 hs1 hcy ha haL hak hs ho0 hG0 put ho1 hs2 hs3 hrg2 hlen hfil HC HRG HS hrg
        obtain ⟨ai, av, ad, ab, az, sa, ap⟩ := a
        simp only at hb
        subst hb
        go_wp2_with fail
        go_roundg cnt1
        case measure => exact hlt1
        case rel => exact ⟨_, _, HCN, HRG6, HS6⟩
      | true =>
        rw [hb] at hfil
        obtain ⟨v4, w4, hap, S4⟩ := tx_push (J := [objI r o1]) hs3 a.i hlen
        obtain ⟨_, ⟨ho4, _⟩, _⟩ := S4.at_ 0 (it := objI r o1) rfl
        have HS6 : Hid (∃ o, Sp.Sep w w4 [objI r o, txI v4 (((cs ++ [a]).filter Nw.b).map Nw.i)]) := Lib.hid ⟨o1, by rw [hfil]; simpa using S4⟩
        have HRG6 : Hid (rngs w4 t.mn r D (fun z => left z && !z.sameKey (.string a.key)) cnt1) := Lib.hid (rngs_same hrg1 ((HB0.out _ S4.below).trans (HB0.out _ hs2.below).symm) (ho4.trans ho1.symm))
        clear hkey hlk hv hat hrg1 hg1 hs1 hcy ha haL hak hs ho0 hG0 put ho1 hs2 hs3 hrg2 hlen hfil HC HRG HS hrg S4 ho4
        obtain ⟨ai, av, ad, ab, az, sa, ap⟩ := a
        simp only at hb
        subst hb
        change (Builtin.append_ #[23, 23] 23 #[u3, .slice (some ⟨(w1.alloc (.cells #[.int .u64 av, .int .u64 ad, .bool true, .int .i64 az, .int .i64 sa, .int .i64 ap] 34)).heap.size, 0, none⟩) 1 1]).run Try.prog ((w1.alloc (.cells #[.int .u64 av, .int .u64 ad, .bool true, .int .i64 az, .int .i64 sa, .int .i64 ap] 34)).alloc (.cells #[.string ai] 9)) = .ok v4 w4 at hap
        rw [show (w1.alloc (.cells #[.int .u64 av, .int .u64 ad, .bool true, .int .i64 az, .int .i64 sa, .int .i64 ap] 34)).heap.size = w1.heap.size + 1 by simp] at hap
        go_wp2_with (with_reducible refine wpList_append_run ((w1.alloc (.cells #[.int .u64 av, .int .u64 ad, .bool true, .int .i64 az, .int .i64 sa, .int .i64 ap] 34)).alloc (.cells #[.string ai] 9)) rfl (.tmp 18) (.tmp 20) 23 23 rfl u3 (.slice (some ⟨w1.heap.size + 1, 0, none⟩) 1 1) rfl rfl v4 w4 hap ?_)
        go_roundg cnt1
        case measure => exact hlt1
        case rel => exact ⟨_, _, HCN, HRG6, HS6⟩
end
end Go.Proofs.Ytjdkgkllgapgjaa.Px
