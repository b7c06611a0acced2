/- The document's own disk (lodgerref05): Flush. -/
import Derived.Test.YtoblkjahohlflaaDiskRB
namespace Go.Proofs.Ytoblkjahohlflaa
open Go.RowKit Go.MapKept Go.Lib
set_option linter.unusedVariables false

theorem own_set {w : World} {base : Nat} {e : TypeId} {n k g c : Nat} {xs : List Value} (u : Value) (ho : w.ownsRow base e 1 (.slice (some ⟨g, 0, none⟩) n c) n xs) (hk : k < n) :
    (w.setCell ⟨g, k, none⟩ u).ownsRow base e 1 (.slice (some ⟨g, 0, none⟩) n c) n (xs.set k u) := by
  have h1 := ho.1
  rcases ho.2 with ⟨h, _⟩ | ⟨g', cap, cur, h, hb, hh, a1, a2, a3, a4⟩
  · cases h
  · injection h with e1 e2 e3
    injection e1 with e1
    injection e1 with e1
    subst e1 e3
    refine ⟨by simpa using h1, .inr ⟨g, c, cur.setIfInBounds k u, rfl, hb, Blk.set_ (t := e) hh k u, a1, a2, by simpa using a3, ?_⟩⟩
    rw [← a4]
    simp [List.take_set]

section
variable {w w' : World} {r gL cL : Nat} {vW vT : Value} {F : Nat → Prop} {s : St}
theorem rL_set {i : Int} (hi : s.has i) (y : ByteArray) : (rL s).set i.toNat (.string y) = rL (s.did fun j => if j = i then y else s.held j) := by
  have h1 := hi.1
  have h2 := hi.2
  apply List.ext_getElem?
  intro k
  rw [List.getElem?_set]
  simp only [rL, St.did, List.length_map, List.length_range, List.getElem?_map]
  by_cases hk : k < s.size.toNat
  · rw [List.getElem?_range hk]
    by_cases e : i.toNat = k
    · rw [if_pos e, if_pos (by omega)]
      simp only [Option.map_some]
      rw [if_pos (by omega)]
    · rw [if_neg e]
      simp only [Option.map_some]
      rw [if_neg (by omega)]
  · rw [if_neg (by omega)]
    rw [List.getElem?_eq_none (by simp; omega)]
    rfl

theorem RefIn.put (D : RefIn w r (.slice (some ⟨gL, 0, none⟩) s.size.toNat cL) vW vT F s) (i : Int) (hi : s.has i) (y : ByteArray) (hy : y.size = 128) :
    RefIn (w.setCell ⟨gL, i.toNat, none⟩ (.string y)) r (.slice (some ⟨gL, 0, none⟩) s.size.toNat cL) vW vT F (s.did fun j => if j = i then y else s.held j)
      ∧ Only F w (w.setCell ⟨gL, i.toNat, none⟩ (.string y)) := by
  have h1 := hi.1
  have h2 := hi.2
  have fg := D.fL gL rfl
  have hs : ∀ b, b ≠ gL → (w.setCell ⟨gL, i.toNat, none⟩ (.string y)).heap[b]? = w.heap[b]? := fun b hb => Below.heap_setCell _ _ _ _ hb
  have ne_r : gL ≠ r := fun e => D.rl (by rw [e]; rfl)
  have ne_T : ∀ g, vT.ownBlock = some g → g ≠ gL := fun g hg e => D.LT gL rfl (by rw [hg, e])
  have ne_W : ∀ g, vW.ownBlock = some g → g ≠ gL := fun g hg e => own_ne2 D.rowW D.rowL (by decide) g hg (by rw [e]; rfl)
  refine ⟨⟨D.fr, D.fL, D.fW, D.fT, D.LT, (hs r (Ne.symm ne_r)).trans D.blk, ?_, own_same D.rowW (fun g hg => hs g (ne_W g hg)), own_same D.rowT (fun g hg => hs g (ne_T g hg)), fun b hb => by have := D.lt b hb; simpa [World.setCell] using this, D.good.did (fun j => by split; exact hy; exact D.good.held j)⟩,
    (Only.refl F w).setCell (p := ⟨gL, i.toNat, none⟩) (.inl fg) _⟩
  rw [← rL_set hi y]
  exact own_set (.string y) D.rowL (by omega)

theorem RefIn.drew {vL : Value} (D : RefIn w r vL vW vT F s) : RefIn w.drew r vL vW vT F s := D.same (fun _ _ => rfl) (Nat.le_refl _)
/-- Nothing is pending any more. -/
theorem RefIn.drop {vL : Value} {q : Int} {s' : St} (D : RefIn w r vL vW vT F s) (hb : Blk w' r 50 #[vL, .slice none 0 0, .slice none 0 0, .int .i64 (leftR s')]) (ho : Only (fun i => i = r) w w') (h1 : s'.held = s.held) (h2 : s'.pend = []) (h3 : s'.size = s.size) (hg : s'.Good) :
    RefIn w' r vL (.slice none 0 0) (.slice none 0 0) F s' := by
  have eL : rL s' = rL s := by unfold rL; rw [h1, h3]
  have nil : ∀ e, w'.ownsRow 0 e 1 (.slice none 0 0) 0 [] := fun e => ⟨rfl, .inl ⟨rfl, rfl⟩⟩
  refine ⟨D.fr, D.fL, fun g hg => by simp [Value.ownBlock] at hg, fun g hg => by simp [Value.ownBlock] at hg, fun g hg hh => by simp [Value.ownBlock] at hh, hb, ?_, by rw [h2]; exact nil _, by rw [h2]; exact nil _, fun b hb => Nat.lt_of_lt_of_le (D.lt b hb) ho.size, hg⟩
  rw [eL, h3]
  exact own_same D.rowL (fun g hg => ho.block g (D.rowL.lt g hg).2 (fun e => D.rl (by rw [hg, e])))
end

theorem rflush_dead {w : World} {r : Nat} {F : Nat → Prop} {s : St} (D : RefAt w r F s) (hd : s.dead) :
    Calls Try.prog 25 #[.pointer (some ⟨r, 0, none⟩)] w fun e w' => e = .returned (.int .i64 9) ∧ w = w' := by
  go_enter Try.func25, Try.ntmps25
  go_wp2_with fail
  refine (ruse_no D hd).mono ?_
  rintro e w1 ⟨rfl, rfl⟩
  go_wp2_with fail
  go_ret
  exact ⟨rfl, rfl⟩

theorem did_all {h : Int → ByteArray} {p : Int × ByteArray} (hh : ∀ i, (h i).size = 128) (hp : p.2.size = 128) : do1 h p 128 = fun j => if j = p.1 then p.2 else h j := by
  funext j; unfold do1; split
  · rw [mix_all _ _ hp (hh j)]
  · rfl

set_option maxHeartbeats 1000000 in
theorem rflush_yes {w : World} {r : Nat} {F : Nat → Prop} {s : St} (D : RefAt w r F s) (hd : ¬ s.dead) (hpl : s.pend.length < 1048576) :
    Calls Try.prog 25 #[.pointer (some ⟨r, 0, none⟩)] w fun e w' => e = .returned (.int .i64 0) ∧ RefAt w' r F s.flush ∧ Only F w w' := by
  have hgood : s.flush.Good := D.good.flush hd
  go_enter Try.func25, Try.ntmps25
  go_wp2_with fail
  refine (ruse_yes D hd).mono ?_
  rintro e w1 ⟨rfl, D1, O1⟩
  have hg1 := D1.good
  obtain ⟨vL, vW, vT, D2⟩ := D1
  obtain ⟨gL, cL, rfl, _⟩ := own_at D2.rowL (rL_at (s := s.use) (i := 0) ⟨Int.le_refl _, by have := hg1.size1; omega⟩)
  obtain ⟨aW, cW, rfl⟩ := own_slice D2.rowW
  obtain ⟨aT, cT, rfl⟩ := own_slice D2.rowT
  have hpl' : s.use.pend.length < 1048576 := hpl
  have HG := Lib.hid hgood
  clear hgood D
  go_wp2_with fail
  go_loopg [3] s.use.pend.length (fun g t wx => ∃ k : Nat, k + g = s.use.pend.length ∧ t = .int .i64 k ∧ RefIn wx r (.slice (some ⟨gL, 0, none⟩) s.use.size.toNat cL) (.slice aW s.use.pend.length cW) (.slice aT s.use.pend.length cT) F (s.use.did (crashTo (fun _ => true) 0 0 s.use.pend s.use.held k)) ∧ Only F w wx)
  case atStart => exact ⟨0, by omega, rfl, D2, O1⟩
  case round =>
    obtain ⟨k, hk, rfl, D3, O3⟩ := hrel
    clear D2 O1
    cases gk with
    | zero =>
      obtain rfl : k = s.use.pend.length := by omega
      have x1 := D3.x1
      have f1 := D3.blk.frozen 1
      have f2 := D3.blk.frozen 2
      have x2 := D3.x2
      have B1 := (D3.blk.set_ 1 (.slice none 0 0)).set_ 2 (.slice none 0 0)
      simp only [List.setIfInBounds_toArray, List.set_cons_succ, List.set_cons_zero] at B1
      have o1 : Only (fun i => i = r) wr ((wr.setCell ⟨r, 1, none⟩ (.slice none 0 0)).setCell ⟨r, 2, none⟩ (.slice none 0 0)) :=
        ((Only.refl (fun i => i = r) wr).setCell (p := ⟨r, 1, none⟩) (.inl rfl) _).setCell (p := ⟨r, 2, none⟩) (.inl rfl) _
      have D4 := RefIn.drop (q := 0) (s' := s.flush) D3 B1 o1 rfl rfl rfl HG.out
      have HD := Lib.hid (⟨_, _, _, D4⟩ : RefAt _ r F s.flush)
      have HO := Lib.hid (O3.trans o1 (fun i e => .inl (by rw [e]; exact D3.fr)))
      clear D4 D3 B1 o1 O3
      go_wp2_with fail
      go_ret
      exact ⟨rfl, HD.out, HO.out⟩
    | succ g =>
      have hlt : k < s.use.pend.length := by omega
      have hkz : (0 : Int) ≤ (k : Int) := by omega
      have hkz2 : (k : Int) < (s.use.pend.length : Int) := by omega
      have e2 : s.use.pend[k]? = some s.use.pend[k] := List.getElem?_eq_getElem hlt
      generalize s.use.pend[k] = p at e2
      have hpg := D3.good.pend p (List.mem_of_getElem? e2)
      have x0 := D3.x0
      have x1 := D3.x1
      have x2 := D3.x2
      have hst := crashTo_step (keep := fun _ => true) (torn := 0) (n := 0) (h := s.use.held) e2
      obtain ⟨gW, c', eW, hW, _⟩ := own_at (u := .int .i64 p.1) (k := k) D3.rowW (by show (rW s.use.pend)[k]? = _; simp [rW, e2])
      obtain ⟨gT, c'', eT, hT, _⟩ := own_at (u := .string p.2) (k := k) D3.rowT (by show (rT s.use.pend)[k]? = _; simp [rT, e2])
      obtain ⟨gL', cL', eL, hL, fL⟩ := own_at D3.rowL (rL_at (i := p.1) hpg.2)
      have eW' : aW = some ⟨gW, 0, none⟩ := by injection eW
      have eT' : aT = some ⟨gT, 0, none⟩ := by injection eT
      have eL' : gL = gL' := by injection eL with a; injection a with a; injection a
      subst eW' eT' eL'
      obtain ⟨D4, O4⟩ := RefIn.put D3 p.1 hpg.2 p.2 hpg.1
      have D5 : RefIn (wr.setCell ⟨gL, p.1.toNat, none⟩ (.string p.2)) r (.slice (some ⟨gL, 0, none⟩) s.use.size.toNat cL) (.slice (some ⟨gW, 0, none⟩) s.use.pend.length cW) (.slice (some ⟨gT, 0, none⟩) s.use.pend.length cT) F (s.use.did (crashTo (fun _ => true) 0 0 s.use.pend s.use.held (k + 1))) := by
        rw [hst, if_pos rfl, did_all (h := crashTo (fun _ => true) 0 0 s.use.pend s.use.held k) (fun i => D3.good.held i) hpg.1]
        exact D4
      have HD := Lib.hid D5
      have HO := Lib.hid (O3.trans O4 (fun i hi => .inl hi))
      have p1 := hpg.2.1
      have p2 : p.1 < s.use.size := hpg.2.2
      have p3 : p.1.toNat < s.use.size.toNat := by omega
      have p4 : p.1 < (s.use.size.toNat : Int) := by omega
      have p5 : p.1 < max s.use.size 0 := by omega
      have HK := Lib.hid hk
      clear D4 D5 D3 O4 O3 hst eW eT eL e2 hpg hk HG
      go_wp2_with fail
      refine wp_region_still_tail 19 (by kernel_rfl) (by kernel_rfl) ?_
      simp only [List.take_succ_cons, List.take_zero, List.drop_succ_cons, List.drop_zero]
      change wpStill _ _ wr.drew (fun a' => wpList _ _ _ _ a' wr.drew) _ _
      repeat still_step
      refine wpStill_nil ?_
      go_wp2_with fail
      go_roundg g
      case measure => omega
      case rel => exact ⟨k + 1, by have := HK.out; omega, by go_num, HD.out.drew, HO.out.drew⟩

end Go.Proofs.Ytoblkjahohlflaa
