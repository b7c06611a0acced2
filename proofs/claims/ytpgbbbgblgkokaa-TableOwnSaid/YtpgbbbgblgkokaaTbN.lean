/- Contract of table's Drop: one segment less, or that it may not be; no memory that was there is changed. -/
import Derived.Test.YtpgbbbgblgkokaaTbL
namespace Go.Proofs.Ytpgbbbgblgkokaa
open Go.RowKit Go.Lib
set_option linter.unusedVariables false

section
variable {base : Nat} {g : Nat} {A : Option Addr} {m p : Nat} {B : Option Addr} {k q : Nat} {C : Option Addr} {n r : Nat} {o l f : List Int} {W W' : World} {i : Nat}
theorem Rows3.delA (h : Rows3 base (some ⟨g, 0, none⟩) m p B k q C n r o l f W) (own : W'.ownsRow base 3 1 (.slice (some ⟨g, 0, none⟩) (m - 1) p) (m - 1) (iv .i64 (o.eraseIdx i))) (hg : W.grownBy W' (some g)) :
    Rows3 base (some ⟨g, 0, none⟩) (m - 1) p B k q C n r (o.eraseIdx i) l f W' :=
  ⟨own, own_kept (A := some ⟨g, 0, none⟩) (p := 0) h.b hg (fun j hj => h.ab j hj), own_kept (A := some ⟨g, 0, none⟩) (p := 0) h.c hg (fun j hj => by have := own_ne h.a h.c (by decide) j; rw [ob_eq, ob_eq] at this; exact this hj), fun j hj => h.ab j hj⟩
theorem Rows3.delB (h : Rows3 base A m p (some ⟨g, 0, none⟩) k q C n r o l f W) (own : W'.ownsRow base 3 1 (.slice (some ⟨g, 0, none⟩) (k - 1) q) (k - 1) (iv .i64 (l.eraseIdx i))) (hg : W.grownBy W' (some g)) :
    Rows3 base A m p (some ⟨g, 0, none⟩) (k - 1) q C n r o (l.eraseIdx i) f W' :=
  ⟨own_kept (A := some ⟨g, 0, none⟩) (p := 0) h.a hg (fun j hj hh => h.ab j hh hj), own, own_kept (A := some ⟨g, 0, none⟩) (p := 0) h.c hg (fun j hj => by have := own_ne h.b h.c (by decide) j; rw [ob_eq, ob_eq] at this; exact this hj), h.ab⟩
theorem Rows3.delC (h : Rows3 base A m p B k q (some ⟨g, 0, none⟩) n r o l f W) (own : W'.ownsRow base 23 1 (.slice (some ⟨g, 0, none⟩) (n - 1) r) (n - 1) (iv .u64 (f.eraseIdx i))) (hg : W.grownBy W' (some g)) :
    Rows3 base A m p B k q (some ⟨g, 0, none⟩) (n - 1) r o l (f.eraseIdx i) W' :=
  ⟨own_kept (A := some ⟨g, 0, none⟩) (p := 0) h.a hg (fun j hj => by have := own_ne h.c h.a (by decide) j; rw [ob_eq, ob_eq] at this; exact this hj), own_kept (A := some ⟨g, 0, none⟩) (p := 0) h.b hg (fun j hj => by have := own_ne h.c h.b (by decide) j; rw [ob_eq, ob_eq] at this; exact this hj), own, h.ab⟩
theorem below_grown {w0 : World} {n0 g : Nat} (h : Below n0 w0 W) (hg : W.grownBy W' (some g)) (hn : n0 ≤ W.heap.size) (h0 : n0 ≤ g) : Below n0 w0 W' := h.grown hg hn (fun j e => by injection e with e; omega)
end

set_option maxRecDepth 100000 in
set_option maxHeartbeats 8000000 in
theorem drop_any (sg st : Int) (A : Option Addr) (m p : Nat) (B : Option Addr) (k q : Nat) (C : Option Addr) (n r : Nat) (o l f : List Int) (x : Int) (w : World) (h : TIn w A m B k C n o l f) (hok : okP ⟨sg, st, o, l, f⟩) :
    Calls Try.prog 31 #[.agg #[.int .i64 sg, .int .i64 st, .slice A m p, .slice B k q, .slice C n r], .int .i64 x] w (ResP (tabOf (dropT ⟨sg, st, o, l, f⟩ x)) (errOf (dropT ⟨sg, st, o, l, f⟩ x) 1) w) := by
  obtain ⟨⟨hfa, hfb, hfc⟩, hm, hk, hn, hml, hkl, hnl⟩ := ok_full hok h
  have hm2 : m ≤ 1000 := by omega
  have hk2 : k ≤ 1000 := by omega
  have hn2 : n ≤ 1000 := by omega
  have hol : m = o.length := h.a.len
  have B0 : Below w.heap.size w ((w.alloc (.cells #[.int .i64 sg, .int .i64 st, .slice A m p, .slice B k q, .slice C n r] 28)).alloc (.cells #[.int .i64 0, .int .i64 0, .slice none 0 0, .slice none 0 0, .slice none 0 0] 28)) := Ge.trans (below1 _ _) (below1 _ _)
  have K0 : Blk ((w.alloc (.cells #[.int .i64 sg, .int .i64 st, .slice A m p, .slice B k q, .slice C n r] 28)).alloc (.cells #[.int .i64 0, .int .i64 0, .slice none 0 0, .slice none 0 0, .slice none 0 0] 28)) w.heap.size 28 (csT sg st A m p B k q C n r) := (Blk.new w _ _).later (below1 _ _)
  have Z0 : Blk ((w.alloc (.cells #[.int .i64 sg, .int .i64 st, .slice A m p, .slice B k q, .slice C n r] 28)).alloc (.cells #[.int .i64 0, .int .i64 0, .slice none 0 0, .slice none 0 0, .slice none 0 0] 28)) (w.heap.size + 1) 28 (csT 0 0 none 0 0 none 0 0 none 0 0) := Blk.at_ _ _ _ (by simp)
  have sz0 : ((w.alloc (.cells #[.int .i64 sg, .int .i64 st, .slice A m p, .slice B k q, .slice C n r] 28)).alloc (.cells #[.int .i64 0, .int .i64 0, .slice none 0 0, .slice none 0 0, .slice none 0 0] 28)).heap.size = w.heap.size + 2 := by simp
  have hv := Try.zeroValue28
  have hT := h.later B0
  obtain ⟨y, HY⟩ : ∃ y, Hid (idx o x = y) := ⟨_, Lib.hid rfl⟩
  have HI := Lib.hid (index_is A m p o x y _ hT.a hml HY.out)
  obtain ⟨u, HU⟩ : ∃ u, Hid ((m : Int) - 1 = u) := ⟨_, Lib.hid rfl⟩
  have HO := Lib.hid (fun W => open_is sg st A m p B k q C n r u W hml HU.out)
  have hylt := idx_lt (l := o) (x := x)
  rw [HY.out, ← hol] at hylt
  have HT := Lib.hid h
  have HK := Lib.hid K0
  have HZ := Lib.hid Z0
  have HB := Lib.hid B0
  have SZ := Lib.hid sz0
  have DT : Hid (dropT ⟨sg, st, o, l, f⟩ x = if y < 0 ∨ y = u then none else some (droppedT ⟨sg, st, o, l, f⟩ y.toNat)) := Lib.hid (by
    unfold dropT; simp only; rw [HY.out, ← hol, HU.out])
  have HKM := Lib.hid hk
  have HNM := Lib.hid hn
  clear hT h B0 K0 Z0 sz0 hok hk hn hol
  by_cases hy : y < 0
  · rw [DT.out, if_pos (.inl hy)]
    simp only [tabOf, errOf, Option.getD]
    clear hylt hm
    go_enter Try.func31, Try.ntmps31
    go_wp2_with fail
    refine HI.out.mono ?_
    rintro e w1 ⟨rfl, rfl⟩
    go_wp2_with (with_reducible refine store_t rfl (.tmp 4) (.tmp 19) rfl (w.heap.size + 1) rfl rfl HZ.out ?_)
    exact bodyPost_ret (res_t2 (y := .int .i64 1) rfl _ _ (w.heap.size + 1) rfl rfl (HZ.out.row _)) rfl (zero_res 1 w _ (below_row HB.out (by omega) _))
  by_cases hu : y = u
  · rw [DT.out, if_pos (.inr hu)]
    simp only [tabOf, errOf, Option.getD]
    subst hu
    have hyy : (y == y) = true := by simp
    clear hylt hm
    go_enter Try.func31, Try.ntmps31
    go_wp2_with (with_reducible refine load_t rfl (.tmp 2) rfl w.heap.size rfl HK.out ?_)
    refine HI.out.mono ?_
    rintro e w1 ⟨rfl, rfl⟩
    go_wp2_with fail
    refine (HO.out _).mono ?_
    rintro e w1 ⟨rfl, hb⟩
    have Z1 := Lib.hid (HZ.out.later hb)
    have B1 := Lib.hid (Ge.trans HB.out hb)
    clear hb
    go_wp2_with (with_reducible refine store_t rfl (.tmp 4) (.tmp 19) rfl (w.heap.size + 1) rfl rfl Z1.out ?_)
    exact bodyPost_ret (res_t2 (y := .int .i64 1) rfl _ _ (w.heap.size + 1) rfl rfl (Z1.out.row _)) rfl (zero_res 1 w _ (below_row B1.out (by omega) _))
  rw [DT.out, if_neg (by omega)]
  simp only [tabOf, errOf, Option.getD, droppedT]
  obtain ⟨i, rfl⟩ := Int.eq_ofNat_of_zero_le (by omega : 0 ≤ y)
  have him : i < m := by omega
  have hik : i < k := by have := HKM.out; omega
  have hin : i < n := by have := HNM.out; omega
  have hyy : ((i : Int) == u) = false := by simp [hu]
  have hi0 : ¬ (i : Int) < 0 := by omega
  have hi9 : (i : Int) < 1000 := by omega
  rw [show ((i : Int)).toNat = i by simp]
  clear hylt hm hu hy DT HKM HNM
  go_enter Try.func31, Try.ntmps31
  go_wp2_with (with_reducible refine load_t rfl (.tmp 2) rfl w.heap.size rfl HK.out ?_)
  refine HI.out.mono ?_
  rintro e w1 ⟨rfl, rfl⟩
  go_wp2_with fail
  refine (HO.out _).mono ?_
  rintro e w1 ⟨rfl, hb⟩
  have Z1 := HZ.out.later hb
  have K1 := Lib.hid (HK.out.later hb)
  have B1 := Ge.trans HB.out hb
  have sz1 : w.heap.size + 2 ≤ w1.heap.size := by have := hb.size; rw [SZ.out] at this; exact this
  have C1 := Lib.hid (copied_any sg st A m p B k q C n r o l f w1 (HT.out.later B1) hfa hfb hfc hm2 hk2 hn2)
  clear hb HI HO HZ HK HB SZ HT
  go_wp2_with (with_reducible refine load_t rfl (.tmp 2) rfl w.heap.size rfl K1.out ?_)
  refine C1.out.mono ?_
  rintro e' w2 ⟨A1, p1, B1', q1, D1, r1, rfl, R1, b1⟩
  have K2 := Lib.hid (K1.out.later b1)
  have Z2 := Z1.later b1
  have B2 := Ge.trans B1 b1
  obtain ⟨ga, rfl, ha, _⟩ := own_some R1.a (by omega)
  obtain ⟨gb, rfl, hbb, _⟩ := own_some R1.b (by omega)
  obtain ⟨gc, rfl, hcc, _⟩ := own_some R1.c (by omega)
  have R2 := R1.wide sz1
  have ga2 : w.heap.size + 2 ≤ ga := by omega
  have gb2 : w.heap.size + 2 ≤ gb := by omega
  have gc2 : w.heap.size + 2 ≤ gc := by omega
  clear C1 Z1 B1 b1 R1 K1 sz1 ha hbb hcc
  go_upto_region 5 with (with_reducible refine store_t rfl (.tmp 2) (.tmp 21) rfl w.heap.size rfl rfl K2.out ?_)
  have K3 : Blk (w2.setRow w.heap.size (csT sg st (some ⟨ga, 0, none⟩) m p1 (some ⟨gb, 0, none⟩) k q1 (some ⟨gc, 0, none⟩) n r1)) w.heap.size 28 (csT sg st (some ⟨ga, 0, none⟩) m p1 (some ⟨gb, 0, none⟩) k q1 (some ⟨gc, 0, none⟩) n r1) := K2.out.row _
  have Z3 : Blk (w2.setRow w.heap.size (csT sg st (some ⟨ga, 0, none⟩) m p1 (some ⟨gb, 0, none⟩) k q1 (some ⟨gc, 0, none⟩) n r1)) (w.heap.size + 1) 28 (csT 0 0 none 0 0 none 0 0 none 0 0) := Z2.far (by omega) _
  have B3 : Below w.heap.size w (w2.setRow w.heap.size (csT sg st (some ⟨ga, 0, none⟩) m p1 (some ⟨gb, 0, none⟩) k q1 (some ⟨gc, 0, none⟩) n r1)) := below_row B2 (Nat.le_refl _) _
  have R3 : Rows3 (w.heap.size + 2) (some ⟨ga, 0, none⟩) m p1 (some ⟨gb, 0, none⟩) k q1 (some ⟨gc, 0, none⟩) n r1 o l f (w2.setRow w.heap.size (csT sg st (some ⟨ga, 0, none⟩) m p1 (some ⟨gb, 0, none⟩) k q1 (some ⟨gc, 0, none⟩) n r1)) := R2.row (by omega)
  clear K2 Z2 B2 R2
  generalize w2.setRow w.heap.size (csT sg st (some ⟨ga, 0, none⟩) m p1 (some ⟨gb, 0, none⟩) k q1 (some ⟨gc, 0, none⟩) n r1) = W3 at *
  have C3 := Lib.hid (del_i (w.heap.size + 2) ga m p1 i o W3 R3.a him hm2)
  have k3 : W3.cell? ⟨w.heap.size, 2, none⟩ = some (.slice (some ⟨ga, 0, none⟩) m p1) := K3.cell 2
  go_wp2_with fail
  refine C3.out.mono ?_
  rintro e' y0 ⟨rfl, own3, gr3⟩
  have Ky := blk_grown K3 gr3 (fun e => by injection e with e; omega)
  have Zy := blk_grown Z3 gr3 (fun e => by injection e with e; omega)
  have By := below_grown B3 gr3 B3.size (by omega)
  have Ry := R3.delA own3 gr3
  have cy : y0.cell? ⟨w.heap.size, 2, none⟩ = some (.slice (some ⟨ga, 0, none⟩) m p1) := Ky.cell 2
  have fy := Ky.frozen 2
  clear C3 k3 own3 gr3 K3 Z3 B3 R3
  go_upto_region 6 with fail
  have K5 : Blk (y0.setCell ⟨w.heap.size, 2, none⟩ (.slice (some ⟨ga, 0, none⟩) (m - 1) p1)) w.heap.size 28 (csT sg st (some ⟨ga, 0, none⟩) (m - 1) p1 (some ⟨gb, 0, none⟩) k q1 (some ⟨gc, 0, none⟩) n r1) := Ky.set_ 2 _
  have Z5 : Blk (y0.setCell ⟨w.heap.size, 2, none⟩ (.slice (some ⟨ga, 0, none⟩) (m - 1) p1)) (w.heap.size + 1) 28 (csT 0 0 none 0 0 none 0 0 none 0 0) := blk_far Zy (by omega)
  have B5 : Below w.heap.size w (y0.setCell ⟨w.heap.size, 2, none⟩ (.slice (some ⟨ga, 0, none⟩) (m - 1) p1)) := Below.setCell (p := ⟨w.heap.size, 2, none⟩) By (Nat.le_refl _) _
  have R5 : Rows3 (w.heap.size + 2) (some ⟨ga, 0, none⟩) (m - 1) p1 (some ⟨gb, 0, none⟩) k q1 (some ⟨gc, 0, none⟩) n r1 (o.eraseIdx i) l f (y0.setCell ⟨w.heap.size, 2, none⟩ (.slice (some ⟨ga, 0, none⟩) (m - 1) p1)) := Ry.set_ (by omega)
  clear cy fy Ky Zy By Ry
  generalize y0.setCell ⟨w.heap.size, 2, none⟩ (.slice (some ⟨ga, 0, none⟩) (m - 1) p1) = W5 at *
  have C5 := Lib.hid (del_i (w.heap.size + 2) gb k q1 i l W5 R5.b hik hk2)
  have k5 : W5.cell? ⟨w.heap.size, 3, none⟩ = some (.slice (some ⟨gb, 0, none⟩) k q1) := K5.cell 3
  go_wp2_with fail
  refine C5.out.mono ?_
  rintro e' y1 ⟨rfl, own5, gr5⟩
  have Ky := blk_grown K5 gr5 (fun e => by injection e with e; omega)
  have Zy := blk_grown Z5 gr5 (fun e => by injection e with e; omega)
  have By := below_grown B5 gr5 B5.size (by omega)
  have Ry := R5.delB own5 gr5
  have cy : y1.cell? ⟨w.heap.size, 3, none⟩ = some (.slice (some ⟨gb, 0, none⟩) k q1) := Ky.cell 3
  have fy := Ky.frozen 3
  clear C5 k5 own5 gr5 K5 Z5 B5 R5
  go_upto_region 7 with fail
  have K7 : Blk (y1.setCell ⟨w.heap.size, 3, none⟩ (.slice (some ⟨gb, 0, none⟩) (k - 1) q1)) w.heap.size 28 (csT sg st (some ⟨ga, 0, none⟩) (m - 1) p1 (some ⟨gb, 0, none⟩) (k - 1) q1 (some ⟨gc, 0, none⟩) n r1) := Ky.set_ 3 _
  have Z7 : Blk (y1.setCell ⟨w.heap.size, 3, none⟩ (.slice (some ⟨gb, 0, none⟩) (k - 1) q1)) (w.heap.size + 1) 28 (csT 0 0 none 0 0 none 0 0 none 0 0) := blk_far Zy (by omega)
  have B7 : Below w.heap.size w (y1.setCell ⟨w.heap.size, 3, none⟩ (.slice (some ⟨gb, 0, none⟩) (k - 1) q1)) := Below.setCell (p := ⟨w.heap.size, 3, none⟩) By (Nat.le_refl _) _
  have R7 : Rows3 (w.heap.size + 2) (some ⟨ga, 0, none⟩) (m - 1) p1 (some ⟨gb, 0, none⟩) (k - 1) q1 (some ⟨gc, 0, none⟩) n r1 (o.eraseIdx i) (l.eraseIdx i) f (y1.setCell ⟨w.heap.size, 3, none⟩ (.slice (some ⟨gb, 0, none⟩) (k - 1) q1)) := Ry.set_ (by omega)
  clear cy fy Ky Zy By Ry
  generalize y1.setCell ⟨w.heap.size, 3, none⟩ (.slice (some ⟨gb, 0, none⟩) (k - 1) q1) = W7 at *
  have C7 := Lib.hid (del_u (w.heap.size + 2) gc n r1 i f W7 R7.c hin hn2)
  have k7 : W7.cell? ⟨w.heap.size, 4, none⟩ = some (.slice (some ⟨gc, 0, none⟩) n r1) := K7.cell 4
  go_wp2_with fail
  refine C7.out.mono ?_
  rintro e' y2 ⟨rfl, own7, gr7⟩
  have Ky := blk_grown K7 gr7 (fun e => by injection e with e; omega)
  have Zy := blk_grown Z7 gr7 (fun e => by injection e with e; omega)
  have By := below_grown B7 gr7 B7.size (by omega)
  have Ry := R7.delC own7 gr7
  have cy : y2.cell? ⟨w.heap.size, 4, none⟩ = some (.slice (some ⟨gc, 0, none⟩) n r1) := Ky.cell 4
  have fy := Ky.frozen 4
  clear C7 k7 own7 gr7 K7 Z7 B7 R7
  go_upto_region 8 with fail
  have K9 : Blk (y2.setCell ⟨w.heap.size, 4, none⟩ (.slice (some ⟨gc, 0, none⟩) (n - 1) r1)) w.heap.size 28 (csT sg st (some ⟨ga, 0, none⟩) (m - 1) p1 (some ⟨gb, 0, none⟩) (k - 1) q1 (some ⟨gc, 0, none⟩) (n - 1) r1) := Ky.set_ 4 _
  have Z9 : Blk (y2.setCell ⟨w.heap.size, 4, none⟩ (.slice (some ⟨gc, 0, none⟩) (n - 1) r1)) (w.heap.size + 1) 28 (csT 0 0 none 0 0 none 0 0 none 0 0) := blk_far Zy (by omega)
  have B9 : Below w.heap.size w (y2.setCell ⟨w.heap.size, 4, none⟩ (.slice (some ⟨gc, 0, none⟩) (n - 1) r1)) := Below.setCell (p := ⟨w.heap.size, 4, none⟩) By (Nat.le_refl _) _
  have R9 : Rows3 (w.heap.size + 2) (some ⟨ga, 0, none⟩) (m - 1) p1 (some ⟨gb, 0, none⟩) (k - 1) q1 (some ⟨gc, 0, none⟩) (n - 1) r1 (o.eraseIdx i) (l.eraseIdx i) (f.eraseIdx i) (y2.setCell ⟨w.heap.size, 4, none⟩ (.slice (some ⟨gc, 0, none⟩) (n - 1) r1)) := Ry.set_ (by omega)
  clear cy fy Ky Zy By Ry
  generalize y2.setCell ⟨w.heap.size, 4, none⟩ (.slice (some ⟨gc, 0, none⟩) (n - 1) r1) = W9 at *
  have HK9 := Lib.hid K9
  have HZ9 := Lib.hid Z9
  have HB9 := Lib.hid B9
  have HR9 := Lib.hid R9
  clear K9 Z9 B9 R9
  go_wp2_with (first
    | (with_reducible refine load_t rfl (.tmp 2) rfl w.heap.size rfl HK9.out ?_)
    | (with_reducible refine store_t rfl (.tmp 4) (.tmp 43) rfl (w.heap.size + 1) rfl rfl HZ9.out ?_))
  have RR := HR9.out.row (b := w.heap.size + 1) (cs := csT sg st (some ⟨ga, 0, none⟩) (m - 1) p1 (some ⟨gb, 0, none⟩) (k - 1) q1 (some ⟨gc, 0, none⟩) (n - 1) r1) (by omega)
  exact bodyPost_ret (res_t2 (y := .int .i64 0) rfl _ _ (w.heap.size + 1) rfl rfl (HZ9.out.row _)) rfl ⟨_, m - 1, p1, _, k - 1, q1, _, n - 1, r1, rfl, RR.tin, own_cap RR.a, (RR.wide (by omega)).fresh, below_row HB9.out (by omega) _⟩
end Go.Proofs.Ytpgbbbgblgkokaa
