/- A part of the proofs of the statements about logs. -/
import Derived.Test.YtdpmjlbkojhooaaGreatPLgR
namespace Go.Proofs.YtdpmjlbkojhooaaGreat.Lg
open Go.RowKit Go.Lib
open Tb (Tab TIn Sl okP csT lastN nth Fresh)
open Dk (St Only Grew)
set_option linter.unusedVariables false
set_option maxRecDepth 100000
def actS (t : Tab) (s : St) (ls ep gn : Int) (o : LOp) : St × Tab × Int × Int × Int × Int × Int :=
  if bits .and .i64 o.k 7 = 0 then ((sealS t s ls (footB t ls ep)).1, (sealS t s ls (footB t ls ep)).2.1, (sealS t s ls (footB t ls ep)).2.2.1, gn, 0, 0, (sealS t s ls (footB t ls ep)).2.2.2) else
  if bits .and .i64 o.k 7 = 1 then ((dropS t o.n s gn (dropB t o.n gn ep ls o.u)).1, (dropS t o.n s gn (dropB t o.n gn ep ls o.u)).2.1, ls, (dropS t o.n s gn (dropB t o.n gn ep ls o.u)).2.2.1, 0, 0, (dropS t o.n s gn (dropB t o.n gn ep ls o.u)).2.2.2) else
  if bits .and .i64 o.k 7 = 2 then ((chkS s gn (chkB t gn ep ls o.u)).1, t, ls, (chkS s gn (chkB t gn ep ls o.u)).2.1, 0, 0, (chkS s gn (chkB t gn ep ls o.u)).2.2) else
  ((appS t s ls ep o.rk o.v o.d (Rc.cut80 o.i) (Rc.cut80 o.a)).1, (appS t s ls ep o.rk o.v o.d (Rc.cut80 o.i) (Rc.cut80 o.a)).2.1, (appS t s ls ep o.rk o.v o.d (Rc.cut80 o.i) (Rc.cut80 o.a)).2.2.1, gn, (appS t s ls ep o.rk o.v o.d (Rc.cut80 o.i) (Rc.cut80 o.a)).2.2.2.1, (appS t s ls ep o.rk o.v o.d (Rc.cut80 o.i) (Rc.cut80 o.a)).2.2.2.2.1, (appS t s ls ep o.rk o.v o.d (Rc.cut80 o.i) (Rc.cut80 o.a)).2.2.2.2.2)
theorem act_p {c : Nat} {t : Tab} {s : St} {ls ep gn : Int} {o : LOp} (h : LogP c t s ls gn) : LogP (c + 2) (actS t s ls ep gn o).2.1 (actS t s ls ep gn o).1 (actS t s ls ep gn o).2.2.1 (actS t s ls ep gn o).2.2.2.1 := by
  unfold actS
  split
  · exact (seal_p h fun f l hf => footB_size h.ok h.ls1 hf).le (by omega)
  split
  · exact (drop_p h fun u hu => dropB_size h.ok h.gn1 h.ls1 hu).le (by omega)
  split
  · exact (chk_p h (chkB_size h.ok h.gn1 h.ls1)).le (by omega)
  · exact app_p h
def ActR (PL : Nat → Nat → Tab → Int → Int → Int → Dk.Item) (W : World) (items : List Dk.Item) (k j d g : Nat) (ep : Int) (s : St) (t : Tab) (ls gn sg so er : Int) (e : Ending) (w' : World) : Prop :=
  e = .returned (.tuple #[.agg #[.int .i64 sg, .int .i64 so], .int .i64 er]) ∧ ∃ it, Dk.Sep W w' ((items.set k (Dk.diskI d s)).set j it) ∧ (er ≠ 9 → it = PL g d t ls ep gn)
theorem drop2 {items : List Dk.Item} {k j : Nat} {x y z : Dk.Item} {a b : Dk.Item} {W w : World} (hk : items[k]? = some a) (hj : items[j]? = some b) (hkj : k ≠ j) (h : Dk.Sep W w (((items ++ [z]).set k x).set j y)) : Dk.Sep W w (((items.set k x).set j y) ++ [z]) := by
  rw [app_set hk, app_set (get_set hj hkj)] at h
  exact h
theorem len2 {items : List Dk.Item} {k j : Nat} {x y z : Dk.Item} : ((items.set k x).set j y ++ [z])[items.length]? = some z := by
  have e : items.length = ((items.set k x).set j y).length := by simp
  rw [e]
  exact app_last
set_option maxHeartbeats 32000000 in
theorem act_any {PL : Nat → Nat → Tab → Int → Int → Int → Dk.Item} (P : Prg PL) {W w : World} {items : List Dk.Item} {k j d g : Nat} {s : St} {t : Tab} {ls ep gn : Int} {c : Nat} (h : Dk.Sep W w items) (hk : items[k]? = some (Dk.diskI d s)) (hj : items[j]? = some (PL g d t ls ep gn)) (hkj : k ≠ j) (hP : LogP c t s ls gn) (hep : 0 ≤ ep ∧ ep < 4294967296) (hc : c ≤ 1000) (o : LOp) (ho : o.Ok) :
    Calls Tryz.prog 44 #[.pointer (some ⟨g, 0, none⟩), .agg #[.int .i64 o.k, .int .u64 o.l, .int .u32 o.e, .int .i64 o.rk, .int .u64 o.v, .int .u64 o.d, .string o.i, .string o.a, .int .i64 o.n, .int .u64 o.u]] w (ActR PL W items k j d g ep (actS t s ls ep gn o).1 (actS t s ls ep gn o).2.1 (actS t s ls ep gn o).2.2.1 (actS t s ls ep gn o).2.2.2.1 (actS t s ls ep gn o).2.2.2.2.1 (actS t s ls ep gn o).2.2.2.2.2.1 (actS t s ls ep gn o).2.2.2.2.2.2) := by
  have hvL := Tryz.zeroValue67
  have N5 : Tb.Blk (w.alloc (.cells #[.int .i64 o.k, .int .u64 o.l, .int .u32 o.e, .int .i64 o.rk, .int .u64 o.v, .int .u64 o.d, .string o.i, .string o.a, .int .i64 o.n, .int .u64 o.u] 48)) w.heap.size 48 #[.int .i64 o.k, .int .u64 o.l, .int .u32 o.e, .int .i64 o.rk, .int .u64 o.v, .int .u64 o.d, .string o.i, .string o.a, .int .i64 o.n, .int .u64 o.u] := Tb.Blk.new w _ _
  have bb1 := Tb.below1 w (.cells #[.int .i64 o.k, .int .u64 o.l, .int .u32 o.e, .int .i64 o.rk, .int .u64 o.v, .int .u64 o.d, .string o.i, .string o.a, .int .i64 o.n, .int .u64 o.u] 48)
  have N4 : Tb.Blk ((w.alloc (.cells #[.int .i64 o.k, .int .u64 o.l, .int .u32 o.e, .int .i64 o.rk, .int .u64 o.v, .int .u64 o.d, .string o.i, .string o.a, .int .i64 o.n, .int .u64 o.u] 48)).alloc (.cells #[.int .i64 0, .int .i64 0] 67)) (w.heap.size + 1) 67 #[.int .i64 0, .int .i64 0] := by
    have := Tb.Blk.new (w.alloc (.cells #[.int .i64 o.k, .int .u64 o.l, .int .u32 o.e, .int .i64 o.rk, .int .u64 o.v, .int .u64 o.d, .string o.i, .string o.a, .int .i64 o.n, .int .u64 o.u] 48)) 67 #[.int .i64 0, .int .i64 0]
    rw [show (w.alloc (.cells #[.int .i64 o.k, .int .u64 o.l, .int .u32 o.e, .int .i64 o.rk, .int .u64 o.v, .int .u64 o.d, .string o.i, .string o.a, .int .i64 o.n, .int .u64 o.u] 48)).heap.size = w.heap.size + 1 by simp] at this
    exact this
  replace N5 := N5.later (Tb.below1 _ (.cells #[.int .i64 0, .int .i64 0] 67))
  have bb2 := bb1.trans ((Tb.below1 (w.alloc (.cells #[.int .i64 o.k, .int .u64 o.l, .int .u32 o.e, .int .i64 o.rk, .int .u64 o.v, .int .u64 o.d, .string o.i, .string o.a, .int .i64 o.n, .int .u64 o.u] 48)) (.cells #[.int .i64 0, .int .i64 0] 67)).mono bb1.size)
  have h1 := loc_new (l := [(w.heap.size, 48, #[.int .i64 o.k, .int .u64 o.l, .int .u32 o.e, .int .i64 o.rk, .int .u64 o.v, .int .u64 o.d, .string o.i, .string o.a, .int .i64 o.n, .int .u64 o.u]), (w.heap.size + 1, 67, #[.int .i64 0, .int .i64 0])]) h bb2 (by intro x hx; rcases List.mem_cons.1 hx with rfl | hx; exact N5; rcases List.mem_cons.1 hx with rfl | hx; exact N4; cases hx) (by intro x hx; rcases List.mem_cons.1 hx with rfl | hx; exact Nat.le_refl _; rcases List.mem_cons.1 hx with rfl | hx; exact Nat.le_succ _; cases hx)
  clear h bb1 bb2
  obtain ⟨⟨s1, t1, l1, g1, sg1, so1, er⟩, EZ⟩ : ∃ z, actS t s ls ep gn o = z := ⟨_, rfl⟩
  rw [EZ]
  go_enter Tryz.func44, Tryz.ntmps44
  go_upto_region 1 with fail
  obtain ⟨b, Eb⟩ : ∃ z, w.heap.size = z := ⟨_, rfl⟩
  rw [Eb] at N4 N5 h1 ⊢
  clear Eb
  generalize (w.alloc (.cells #[.int .i64 o.k, .int .u64 o.l, .int .u32 o.e, .int .i64 o.rk, .int .u64 o.v, .int .u64 o.d, .string o.i, .string o.a, .int .i64 o.n, .int .u64 o.u] 48)).alloc (.cells #[.int .i64 0, .int .i64 0] 67) = w1 at *
  have c0 : w1.cell? ⟨b, 0, none⟩ = some (.int .i64 o.k) := N5.cell 0
  have c8 : w1.cell? ⟨b, 8, none⟩ = some (.int .i64 o.n) := N5.cell 8
  have c9 : w1.cell? ⟨b, 9, none⟩ = some (.int .u64 o.u) := N5.cell 9
  have hk1 := app_at (b := locI [(b, 48, #[.int .i64 o.k, .int .u64 o.l, .int .u32 o.e, .int .i64 o.rk, .int .u64 o.v, .int .u64 o.d, .string o.i, .string o.a, .int .i64 o.n, .int .u64 o.u]), (b + 1, 67, #[.int .i64 0, .int .i64 0])]) hk
  have hj1 := app_at (b := locI [(b, 48, #[.int .i64 o.k, .int .u64 o.l, .int .u32 o.e, .int .i64 o.rk, .int .u64 o.v, .int .u64 o.d, .string o.i, .string o.a, .int .i64 o.n, .int .u64 o.u]), (b + 1, 67, #[.int .i64 0, .int .i64 0])]) hj
  obtain ⟨kk0, Ek⟩ : ∃ z, bits .and .i64 o.k 7 = z := ⟨_, rfl⟩
  by_cases hq : kk0 = 0
  · have EQ : actS t s ls ep gn o = ((sealS t s ls (footB t ls ep)).1, (sealS t s ls (footB t ls ep)).2.1, (sealS t s ls (footB t ls ep)).2.2.1, gn, 0, 0, (sealS t s ls (footB t ls ep)).2.2.2) := by
      unfold actS
      rw [if_pos (by rw [Ek, hq])]
    have HC := Lib.hid (P.sealc h1 hk1 hj1 hkj ⟨hP.ls1, by have := hP.ls2; omega⟩ hep hP.ok hP.fit (by have := hP.pend; omega))
    rw [EZ] at EQ
    injection EQ with E1 EQ; injection EQ with E2 EQ; injection EQ with E3 EQ; injection EQ with E4 EQ; injection EQ with E5 EQ; injection EQ with E6 E7
    subst E5 E6
    rw [← E1, ← E2, ← E3, ← E7, ← E4] at HC
    subst hq
    clear E1 E2 E3 E4 E7 EZ hP
    go_wp2_with fail
    refine HC.out.mono ?_
    rintro e' w2 ⟨rfl, it, h2, hit⟩
    clear HC
    have h3 := drop2 hk hj hkj h2
    clear h2
    have N4 := loc_at h3 len2 _ (List.mem_cons_of_mem _ (List.mem_cons_self ..))
    simp only at N4
    go_wp2_with (with_reducible refine store_loc rfl (.tmp 4) (.tmp 11) rfl (b + 1) rfl rfl N4 ?_)
    have h4 := loc_row (l' := [(b, 48, #[.int .i64 o.k, .int .u64 o.l, .int .u32 o.e, .int .i64 o.rk, .int .u64 o.v, .int .u64 o.d, .string o.i, .string o.a, .int .i64 o.n, .int .u64 o.u]), (b + 1, 67, #[.int .i64 0, .int .i64 0])]) h3 len2 (b + 1) ⟨_, List.mem_cons_of_mem _ (List.mem_cons_self ..), rfl⟩ #[.int .i64 0, .int .i64 0] (by
      intro x hx
      rcases List.mem_cons.1 hx with rfl | hx
      · have N5 := loc_at h3 len2 _ (List.mem_cons_self ..)
        exact (setRow_other _ (b + 1) b _ (by omega)).trans N5
      · rcases List.mem_cons.1 hx with rfl | hx
        · exact N4.row _
        · cases hx) (by
      intro x hx
      rcases List.mem_cons.1 hx with rfl | hx
      · exact ⟨_, List.mem_cons_self .., rfl⟩
      · rcases List.mem_cons.1 hx with rfl | hx
        · exact ⟨_, List.mem_cons_of_mem _ (List.mem_cons_self ..), rfl⟩
        · cases hx)
    have e4 : items.length = ((items.set k (Dk.diskI d s1)).set j it).length := by simp
    rw [e4, app_set_last] at h4
    exact bodyPost_ret (res_loc rfl _ _ (b + 1) rfl rfl (N4.row _)) rfl ⟨rfl, it, loc_drop h4, hit⟩
  by_cases hq : kk0 = 1
  · have EQ : actS t s ls ep gn o = ((dropS t o.n s gn (dropB t o.n gn ep ls o.u)).1, (dropS t o.n s gn (dropB t o.n gn ep ls o.u)).2.1, ls, (dropS t o.n s gn (dropB t o.n gn ep ls o.u)).2.2.1, 0, 0, (dropS t o.n s gn (dropB t o.n gn ep ls o.u)).2.2.2) := by
      unfold actS
      rw [if_neg (by rw [Ek, hq]; decide)]; rw [if_pos (by rw [Ek, hq])]
    have HC := Lib.hid (P.drop h1 hk1 hj1 hkj o.n o.u ho.u ⟨hP.ls1, by have := hP.ls2; omega⟩ hep ⟨hP.gn1, by have := hP.gn2; omega⟩ hP.ok hP.size2 (by have := hP.pend; omega) (dropB t o.n gn ep ls o.u) (fun t' ht => dropB_eq ht))
    rw [EZ] at EQ
    injection EQ with E1 EQ; injection EQ with E2 EQ; injection EQ with E3 EQ; injection EQ with E4 EQ; injection EQ with E5 EQ; injection EQ with E6 E7
    subst E5 E6
    rw [← E1, ← E2, ← E4, ← E7, ← E3] at HC
    subst hq
    clear E1 E2 E3 E4 E7 EZ hP
    go_wp2_with fail
    refine HC.out.mono ?_
    rintro e' w2 ⟨rfl, it, h2, hit⟩
    clear HC
    have h3 := drop2 hk hj hkj h2
    clear h2
    have N4 := loc_at h3 len2 _ (List.mem_cons_of_mem _ (List.mem_cons_self ..))
    simp only at N4
    go_wp2_with (with_reducible refine store_loc rfl (.tmp 4) (.tmp 16) rfl (b + 1) rfl rfl N4 ?_)
    have h4 := loc_row (l' := [(b, 48, #[.int .i64 o.k, .int .u64 o.l, .int .u32 o.e, .int .i64 o.rk, .int .u64 o.v, .int .u64 o.d, .string o.i, .string o.a, .int .i64 o.n, .int .u64 o.u]), (b + 1, 67, #[.int .i64 0, .int .i64 0])]) h3 len2 (b + 1) ⟨_, List.mem_cons_of_mem _ (List.mem_cons_self ..), rfl⟩ #[.int .i64 0, .int .i64 0] (by
      intro x hx
      rcases List.mem_cons.1 hx with rfl | hx
      · have N5 := loc_at h3 len2 _ (List.mem_cons_self ..)
        exact (setRow_other _ (b + 1) b _ (by omega)).trans N5
      · rcases List.mem_cons.1 hx with rfl | hx
        · exact N4.row _
        · cases hx) (by
      intro x hx
      rcases List.mem_cons.1 hx with rfl | hx
      · exact ⟨_, List.mem_cons_self .., rfl⟩
      · rcases List.mem_cons.1 hx with rfl | hx
        · exact ⟨_, List.mem_cons_of_mem _ (List.mem_cons_self ..), rfl⟩
        · cases hx)
    have e4 : items.length = ((items.set k (Dk.diskI d s1)).set j it).length := by simp
    rw [e4, app_set_last] at h4
    exact bodyPost_ret (res_loc rfl _ _ (b + 1) rfl rfl (N4.row _)) rfl ⟨rfl, it, loc_drop h4, hit⟩
  by_cases hq : kk0 = 2
  · have EQ : actS t s ls ep gn o = ((chkS s gn (chkB t gn ep ls o.u)).1, t, ls, (chkS s gn (chkB t gn ep ls o.u)).2.1, 0, 0, (chkS s gn (chkB t gn ep ls o.u)).2.2) := by
      unfold actS
      rw [if_neg (by rw [Ek, hq]; decide)]; rw [if_neg (by rw [Ek, hq]; decide)]; rw [if_pos (by rw [Ek, hq])]
    have HC := Lib.hid (P.chk h1 hk1 hj1 hkj o.u ho.u ⟨hP.ls1, by have := hP.ls2; omega⟩ hep ⟨hP.gn1, by have := hP.gn2; omega⟩ hP.ok hP.size2 (by have := hP.pend; omega) (chkB t gn ep ls o.u) (chkB_eq ..))
    rw [EZ] at EQ
    injection EQ with E1 EQ; injection EQ with E2 EQ; injection EQ with E3 EQ; injection EQ with E4 EQ; injection EQ with E5 EQ; injection EQ with E6 E7
    subst E5 E6
    rw [← E1, ← E4, ← E7, ← E2, ← E3] at HC
    subst hq
    clear E1 E2 E3 E4 E7 EZ hP
    go_wp2_with fail
    refine HC.out.mono ?_
    rintro e' w2 ⟨rfl, it, h2, hit⟩
    clear HC
    have h3 := drop2 hk hj hkj h2
    clear h2
    have N4 := loc_at h3 len2 _ (List.mem_cons_of_mem _ (List.mem_cons_self ..))
    simp only at N4
    go_wp2_with (with_reducible refine store_loc rfl (.tmp 4) (.tmp 25) rfl (b + 1) rfl rfl N4 ?_)
    have h4 := loc_row (l' := [(b, 48, #[.int .i64 o.k, .int .u64 o.l, .int .u32 o.e, .int .i64 o.rk, .int .u64 o.v, .int .u64 o.d, .string o.i, .string o.a, .int .i64 o.n, .int .u64 o.u]), (b + 1, 67, #[.int .i64 0, .int .i64 0])]) h3 len2 (b + 1) ⟨_, List.mem_cons_of_mem _ (List.mem_cons_self ..), rfl⟩ #[.int .i64 0, .int .i64 0] (by
      intro x hx
      rcases List.mem_cons.1 hx with rfl | hx
      · have N5 := loc_at h3 len2 _ (List.mem_cons_self ..)
        exact (setRow_other _ (b + 1) b _ (by omega)).trans N5
      · rcases List.mem_cons.1 hx with rfl | hx
        · exact N4.row _
        · cases hx) (by
      intro x hx
      rcases List.mem_cons.1 hx with rfl | hx
      · exact ⟨_, List.mem_cons_self .., rfl⟩
      · rcases List.mem_cons.1 hx with rfl | hx
        · exact ⟨_, List.mem_cons_of_mem _ (List.mem_cons_self ..), rfl⟩
        · cases hx)
    have e4 : items.length = ((items.set k (Dk.diskI d s1)).set j it).length := by simp
    rw [e4, app_set_last] at h4
    exact bodyPost_ret (res_loc rfl _ _ (b + 1) rfl rfl (N4.row _)) rfl ⟨rfl, it, loc_drop h4, hit⟩
  have hq : kk0 ≠ 0 ∧ kk0 ≠ 1 ∧ kk0 ≠ 2 := ⟨by assumption, by assumption, by assumption⟩
  have EQ : actS t s ls ep gn o = ((appS t s ls ep o.rk o.v o.d (Rc.cut80 o.i) (Rc.cut80 o.a)).1, (appS t s ls ep o.rk o.v o.d (Rc.cut80 o.i) (Rc.cut80 o.a)).2.1, (appS t s ls ep o.rk o.v o.d (Rc.cut80 o.i) (Rc.cut80 o.a)).2.2.1, gn, (appS t s ls ep o.rk o.v o.d (Rc.cut80 o.i) (Rc.cut80 o.a)).2.2.2.1, (appS t s ls ep o.rk o.v o.d (Rc.cut80 o.i) (Rc.cut80 o.a)).2.2.2.2.1, (appS t s ls ep o.rk o.v o.d (Rc.cut80 o.i) (Rc.cut80 o.a)).2.2.2.2.2) := by
    unfold actS
    rw [if_neg (by rw [Ek]; exact hq.1), if_neg (by rw [Ek]; exact hq.2.1), if_neg (by rw [Ek]; exact hq.2.2)]
  have q0 : (kk0 == 0) = false := by simpa using hq.1
  have q1 : (kk0 == 1) = false := by simpa using hq.2.1
  have q2 : (kk0 == 2) = false := by simpa using hq.2.2
  have c1 : w1.cell? ⟨b, 1, none⟩ = some (.int .u64 o.l) := N5.cell 1
  have c2 : w1.cell? ⟨b, 2, none⟩ = some (.int .u32 o.e) := N5.cell 2
  have c3 : w1.cell? ⟨b, 3, none⟩ = some (.int .i64 o.rk) := N5.cell 3
  have c4 : w1.cell? ⟨b, 4, none⟩ = some (.int .u64 o.v) := N5.cell 4
  have c5 : w1.cell? ⟨b, 5, none⟩ = some (.int .u64 o.d) := N5.cell 5
  have c6 : w1.cell? ⟨b, 6, none⟩ = some (.string o.i) := N5.cell 6
  have c7 : w1.cell? ⟨b, 7, none⟩ = some (.string o.a) := N5.cell 7
  have HU := Lib.hid (Rc.lawcut_any o.l o.e o.rk o.v o.d o.i o.a w1 ho.i ho.a)
  have HC := Lib.hid (fun W1 w1 (h1 : Dk.Sep W1 w1 (items ++ [locI [(b, 48, #[.int .i64 o.k, .int .u64 o.l, .int .u32 o.e, .int .i64 o.rk, .int .u64 o.v, .int .u64 o.d, .string o.i, .string o.a, .int .i64 o.n, .int .u64 o.u]), (b + 1, 67, #[.int .i64 0, .int .i64 0])]])) => P.app h1 hk1 hj1 hkj o.l o.e o.rk o.v o.d (Rc.cut80 o.i) (Rc.cut80 o.a) ⟨hP.ls1, by have := hP.ls2; omega⟩ hep ho.v ho.d (by have := Rc.cut80_size o.i; unfold maxLen; omega) (by have := Rc.cut80_size o.a; unfold maxLen; omega) hP.ok hP.fit (by have := hP.pend; omega))
  rw [EZ] at EQ
  injection EQ with E1 EQ; injection EQ with E2 EQ; injection EQ with E3 EQ; injection EQ with E4 EQ; injection EQ with E5 EQ; injection EQ with E6 E7
  simp only [← E1, ← E2, ← E3, ← E5, ← E6, ← E7] at HC
  obtain rfl := E4
  clear E1 E2 E3 E5 E6 E7 EZ hP hq
  go_wp2_with fail
  refine HU.out.mono ?_
  rintro e' v1 ⟨rfl, hb⟩
  have h1 := h1.later hb
  clear hb HU c0 c1 c2 c3 c4 c5 c6 c7 c8 c9
  go_wp2_with fail
  refine (HC.out W v1 h1).mono ?_
  rintro e' w2 ⟨rfl, it, h2, hit⟩
  clear HC
  have h3 := drop2 hk hj hkj h2
  clear h2
  have N4 := loc_at h3 len2 _ (List.mem_cons_of_mem _ (List.mem_cons_self ..))
  simp only at N4
  go_wp2_with (with_reducible refine store_loc rfl (.tmp 4) (.tmp 35) rfl (b + 1) rfl rfl N4 ?_)
  have h4 := loc_row (l' := [(b, 48, #[.int .i64 o.k, .int .u64 o.l, .int .u32 o.e, .int .i64 o.rk, .int .u64 o.v, .int .u64 o.d, .string o.i, .string o.a, .int .i64 o.n, .int .u64 o.u]), (b + 1, 67, #[.int .i64 sg1, .int .i64 so1])]) h3 len2 (b + 1) ⟨_, List.mem_cons_of_mem _ (List.mem_cons_self ..), rfl⟩ #[.int .i64 sg1, .int .i64 so1] (by
    intro x hx
    rcases List.mem_cons.1 hx with rfl | hx
    · have N5 := loc_at h3 len2 _ (List.mem_cons_self ..)
      exact (setRow_other _ (b + 1) b _ (by omega)).trans N5
    · rcases List.mem_cons.1 hx with rfl | hx
      · exact N4.row _
      · cases hx) (by
    intro x hx
    rcases List.mem_cons.1 hx with rfl | hx
    · exact ⟨_, List.mem_cons_self .., rfl⟩
    · rcases List.mem_cons.1 hx with rfl | hx
      · exact ⟨_, List.mem_cons_of_mem _ (List.mem_cons_self ..), rfl⟩
      · cases hx)
  have e4 : items.length = ((items.set k (Dk.diskI d s1)).set j it).length := by simp
  rw [e4, app_set_last] at h4
  exact bodyPost_ret (res_loc rfl _ _ (b + 1) rfl rfl (N4.row _)) rfl ⟨rfl, it, loc_drop h4, hit⟩
end Go.Proofs.YtdpmjlbkojhooaaGreat.Lg
