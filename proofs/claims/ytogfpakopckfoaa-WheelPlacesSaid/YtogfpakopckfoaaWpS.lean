/- The program's tell. -/
import Derived.Test.YtogfpakopckfoaaWpR
namespace Go.Proofs.Ytogfpakopckfoaa.Wl
open Go.RowKit Go.Lib Go.Maps
open Sp
set_option linter.unusedVariables false
set_option maxRecDepth 100000

theorem ptm_infos : (Try.prog.info? 41).map (fun i => (i.zero, i.size, i.bytes)) = some (some (.agg #[.string ⟨#[]⟩, .int .u64 0]), 2, 24) := by kernel_rfl
/-- The wheel, its parts by name. -/
def wX (g ma mf : Nat) (v : Nat → Value) (sl : Nat → List En) (t : Nat) (L A : List En) (p : En → Bool) : Sp.Item :=
  ⟨fun w G => MemW w g ma mf v sl t L A p ∧ ∀ b, G b ↔ Foot g ma mf v A b,
   fun ⟨h, hG⟩ hs _ => ⟨h.same (fun b hb => hs b ((hG b).2 hb)), hG⟩,
   fun ⟨h, hG⟩ b hb => h.lt b ((hG b).1 hb)⟩
abbrev nt (l : List En) (x : En) : Bool := !(l.any (fun a => x.b == a.b))
theorem sorted_is {l m : List Tm} (hp : l.Perm m) (hm : Ok m) (hs : ∀ i j (hi : i < l.length) (hj : j < l.length), i < j → ahd l[j] l[i] = false) : l = m := by
  refine List.Perm.eq_of_pairwise (le := fun a b => ahd a b = true) (fun a b _ _ h1 h2 => ?_) ?_ hm.s hp
  · have h3 := ahd_trans h1 h2
    rw [ahd_iff] at h3
    rcases h3 with h3 | ⟨_, h3⟩
    · omega
    · exact absurd h3 (List.lt_irrefl _)
  · have hu : l.Pairwise (fun a b => a.key ≠ b.key) := hp.symm.pairwise hm.u (fun {_ _} h => h.symm)
    rw [List.pairwise_iff_getElem] at hu ⊢
    intro i j hi hj hij
    exact ahd_total (hs i j hi hj hij) (hu i j hi hj hij).symm
section
variable {W w w' : World} {items J : List Sp.Item} {k g t n ma mf : Nat} {v : Nat → Value} {sl : Nat → List En} {l : List En} {L A : List En} {p : En → Bool} {e : En}
theorem wX_start (h : Sp.Sep W w items) (hk : items[k]? = some (wI g t L A p)) : ∃ ma mf v sl, MemW w g ma mf v sl t L A p ∧ Sp.Sep W w (items.set k (wX g ma mf v sl t L A p)) := by
  obtain ⟨G, ⟨ma, mf, v, sl, hM, hG⟩, _, _, put⟩ := h.at_ k hk
  exact ⟨ma, mf, v, sl, hM, put w G (wX g ma mf v sl t L A p) ⟨hM, hG⟩ (Grew.refl _ _) (Only.refl _ _)⟩
theorem wX_at (h : Sp.Sep W w items) (hk : items[k]? = some (wX g ma mf v sl t L A p)) : MemW w g ma mf v sl t L A p ∧
    ∀ (w' : World) (v' : Nat → Value) (sl' : Nat → List En) (t' : Nat) (L' A' : List En) (p' : En → Bool), MemW w' g ma mf v' sl' t' L' A' p' → Only (Foot g ma mf v A) w w' → (∀ b, Foot g ma mf v' A' b → Foot g ma mf v A b ∨ w.heap.size ≤ b) → Sp.Sep W w' (items.set k (wX g ma mf v' sl' t' L' A' p')) := by
  obtain ⟨G, ⟨hM, hG⟩, _, _, put⟩ := h.at_ k hk
  refine ⟨hM, fun w' v' sl' t' L' A' p' hM' ho hgr => ?_⟩
  refine put w' (Foot g ma mf v' A') (wX g ma mf v' sl' t' L' A' p') ⟨hM', fun b => Iff.rfl⟩ (fun b hb => ?_) (ho.mono fun b hb => .inl ((hG b).2 hb))
  rcases hgr b hb with h1 | h1
  · exact .inl ((hG b).2 h1)
  · exact .inr h1
theorem wX_end (h : Sp.Sep W w items) (hk : items[k]? = some (wX g ma mf v sl t L A p)) : Sp.Sep W w (items.set k (wI g t L A p)) := by
  obtain ⟨G, ⟨hM, hG⟩, _, _, put⟩ := h.at_ k hk
  exact put w G (wI g t L A p) ⟨ma, mf, v, sl, hM, hG⟩ (Grew.refl _ _) (Only.refl _ _)
theorem clr_one {α : Type} (v : Nat → α) (q : Nat) (x : α) : clr v q 1 x = upd v q x := by
  funext j
  unfold clr upd
  by_cases h : j = q
  · rw [if_pos h, if_pos (by omega)]
  · rw [if_neg h, if_neg (by omega)]
theorem nt_step {S : List En} (hA : AOk A) (hS : ∀ e ∈ S, e ∈ A) (hb : S.Nodup) {i : Nat} (he : S[i]? = some e) :
    (A.filter (nt (S.take i))).Perm (e :: A.filter (nt (S.take (i + 1)))) ∧ ∀ a ∈ A.filter (nt (S.take (i + 1))), a.key ≠ e.key := by
  have heA := hS e (List.mem_of_getElem? he)
  have htk : ∀ x, nt (S.take (i + 1)) x = (nt (S.take i) x && !(x.b == e.b)) := fun x => by
    rw [List.take_add_one, he]
    simp [nt]
  have hne : nt (S.take i) e = true := by
    simp only [nt, Bool.not_eq_true']
    rw [List.any_eq_false]
    intro a ha hab
    have e1 : e.b = a.b := by simpa using hab
    obtain ⟨j, hj, hja⟩ := List.mem_take_iff_getElem.1 ha
    have hi := (List.getElem?_eq_some_iff.1 he).1
    have h2 : a = e := (nodup_inj hA.b (hS a (List.mem_of_mem_take ha)) heA e1.symm)
    have := (List.getElem?_inj (show j < S.length by omega) hb).1 ((List.getElem?_eq_getElem (show j < S.length by omega)).trans (by rw [hja, h2, he]))
    omega
  constructor
  · exact filter_put hA.b heA (by rw [htk]; simp) hne fun x hx hxe => by
      rw [htk, show (x.b == e.b) = false by simpa using fun e1 => hxe (nodup_inj hA.b hx heA e1)]
      simp
  · intro a ha e1
    obtain ⟨h1, h2⟩ := List.mem_filter.1 ha
    have := nodup_inj hA.k h1 heA e1
    subst this
    rw [htk] at h2
    simp at h2
set_option maxHeartbeats 8000000 in
theorem tell_any (h : Sp.Sep W w items) (hk : items[k]? = some (wI g t A A allP)) (hA : AOk A) (ht : t < 18446744073709551616) (hO : Ok (A.map En.t)) :
    Calls Try.prog 35 #[.pointer (some ⟨g, 0, none⟩)] w fun e w' => ∃ Ad p A', e = .returned (.slice Ad (dueL (A.map En.t) t).length p) ∧ AOk A' ∧ A'.map En.t = rest (A.map En.t) t ∧ Sp.Sep W w' (items.set k (wI g t A' A' allP) ++ [trI Ad (dueL (A.map En.t) t).length (dueL (A.map En.t) t)]) := by
  obtain ⟨q, hq⟩ : ∃ q, t % 16 = q := ⟨_, rfl⟩
  have hq16 : q < 16 := by omega
  have hpl : place t t = (0, q) := by unfold place; rw [if_pos (Nat.le_refl t), hq]
  have hp := fun W' => place_any t t W' ht ht
  rw [hpl] at hp
  have HPL := Lib.hid hp
  have I : Sp.Sep W { w with drawn := w.drawn + 1 } items := h.drew
  have hne : Nonempty (In (fun X => Sp.Sep W X items)) := ⟨⟨_, I⟩⟩
  have f0 : ∀ jj : In (fun X => Sp.Sep W X items), jj.W.cell? ⟨g, 0, none⟩ = some (.int .u64 (t : Int)) := fun jj => by
    obtain ⟨ma, mf, v, sl, hM⟩ := wI_at jj.h hk
    exact (hM.blk.cell 0).trans (wh0 _ _ _ _)
  have HDU : Hid (∀ x ∈ A, ix t x.n = q ↔ x.t.d ≤ (t : Int)) := Lib.hid (fun x hx => by
    obtain ⟨h1, h2⟩ := en_n hA hx
    rw [← hq, due_ix h2, h1]
    omega)
  have HK := Lib.hid hk
  have HA := Lib.hid hA
  have HT := Lib.hid ht
  have HOK := Lib.hid hO
  obtain ⟨Dl, hDl⟩ : ∃ D, dueL (A.map En.t) (t : Int) = D := ⟨_, rfl⟩
  rw [hDl]
  have HDL := Lib.hid hDl
  clear h hk hA ht hO hp hpl hq hDl
  go_enter Try.func35, Try.ntmps35
  go_upto_region 1 with fail
  refine region_class (fun X => Sp.Sep W X items) (by kernel_rfl) (by kernel_rfl) I ?_
  repeat (go_big_quiet_step (first
    | (go_at_call 13; with_reducible exact class_call _ (fun hi => (HPL.out _).mono fun x w' ⟨he, hb⟩ => ⟨he, hb ▸ hi⟩))))
  refine wpQuiet_nil ?_
  rintro _ ⟨jj, rfl⟩
  have SX := Lib.hid jj.h
  clear I hne f0
  generalize jj.W = X at *
  clear jj
  obtain ⟨ma, mf, v, sl, hM, hS1⟩ := wX_start SX.out HK.out
  obtain ⟨Av, cv, hv⟩ := hM.slc (q := q) (by omega)
  have x1 : X.cell? ⟨g, 2 + q, none⟩ = some (.slice Av (sl q).length cv) := by rw [← hv]; exact (hM.blk.cell _).trans (whk _ _ _ _ (by omega))
  obtain ⟨S, hS⟩ : ∃ S, sl q = S := ⟨_, rfl⟩
  have hper := hM.per q (by omega)
  rw [hS] at x1 hv hper
  have HPER := Lib.hid hper
  have HSA : Hid (∀ e ∈ S, e ∈ A) := Lib.hid (fun e he => (List.mem_filter.1 (hper.mem_iff.1 he)).1)
  have HSN : Hid S.Nodup := Lib.hid (hper.nodup_iff.2 (HA.out.nd.sublist List.filter_sublist))
  have HV := Lib.hid hv
  have HSQ := Lib.hid hS
  have hnl := hM.len HA.out.n (k := q) (by omega)
  rw [hS] at hnl
  obtain ⟨n, hn⟩ : ∃ n, S.length = n := ⟨_, rfl⟩
  rw [hn] at x1 hnl
  have HN := Lib.hid hn
  have q16 : (q : Int) < 16 := by omega
  have HS0 : Hid (Sp.Sep W X (items.set k (wX g ma mf v sl t (A.filter (nt (S.take 0))) A allP) ++ [rowS 41 2 (.slice none 0 0) 0 (((S.take 0).map En.t).flatMap tmC)])) := Lib.hid (by
    have : A.filter (nt (S.take 0)) = A := List.filter_eq_self.2 fun x _ => by simp [nt]
    rw [this]
    exact rows_nil hS1 _ _)
  clear hM hS1 hv hper hn SX hS
  go_wp2_with fail
  go_loopg [5, 29] n (fun gk s5 s29 wr => ∃ (i : Nat), i ≤ n ∧ gk = n - i ∧ s29 = .int .i64 (i : Nat) ∧ Hid (Sp.Sep W wr (items.set k (wX g ma mf v sl t (A.filter (nt (S.take i))) A allP) ++ [rowS 41 2 s5 i (((S.take i).map En.t).flatMap tmC)])))
  case atStart => exact ⟨0, by omega, rfl, rfl, HS0⟩
  case round =>
    obtain ⟨i, hi, hgk, rfl, HS⟩ := hrel
    have HGK := Lib.hid hgk
    clear hgk HS0 x1
    have hlen : ∀ X, (items.set k X).length = items.length := fun X => List.length_set
    have hk1 := get_front (J := [rowS 41 2 u5 i (((S.take i).map En.t).flatMap tmC)]) (set_at HK.out (wX g ma mf v sl t (A.filter (nt (S.take i))) A allP))
    by_cases hlt : i < n
    · have hli : (i : Int) < (n : Int) := by omega
      have wi : IntKind.i64.wrap ((i : Int) + 1) = (i : Int) + 1 := IntWalk.i64_in _ (by omega)
      obtain ⟨e, he⟩ : ∃ e, S[i]? = some e := ⟨_, List.getElem?_eq_getElem (by rw [HN.out]; exact hlt)⟩
      have heA := HSA.out e (List.mem_of_getElem? he)
      have S1 := HS.out.drew
      obtain ⟨hM, put⟩ := wX_at S1 hk1
      obtain ⟨r, cap, cur, hvr, _, hr, hc1, hc2, hc3, hc4⟩ : ∃ r cap cur, v q = .slice (some ⟨r, 0, none⟩) (sl q).length cap ∧ 0 ≤ r ∧ wr.drew.heap[r]? = some (.cells cur 75 (0, 0)) ∧ (sl q).length ≤ cap ∧ cap ≤ maxLen ∧ cur.size = cap * 1 ∧ cur.toList.take ((sl q).length * 1) = (sl q).map En.ptr := by
        rcases (hM.row q (by omega)).2 with ⟨_, h2⟩ | h2
        · rw [HSQ.out, HN.out] at h2
          omega
        · exact h2
      rw [HV.out] at hvr
      injection hvr with hvr1 hvr2 hvr3
      subst hvr1
      have y0 : wr.cell? ⟨r, i, none⟩ = some (.pointer (some ⟨e.b, 0, none⟩)) := by
        have h1 : (cur.toList.take ((sl q).length * 1))[i]? = ((sl q).map En.ptr)[i]? := by rw [hc4]
        rw [HSQ.out, Nat.mul_one, HN.out, List.getElem?_take_of_lt hlt, List.getElem?_map, he, Array.getElem?_toList] at h1
        exact (Sp.Blk.cell (w := wr.drew) hr i).trans h1
      obtain ⟨hst, hky⟩ := nt_step HA.out HSA.out HSN.out he
      obtain ⟨w2, hdr, hM2, ho2⟩ := hM.alldel HA.out heA hst hky 0
      have hdr2 : ∀ ty, (Builtin.delete_ #[61, 9] ty #[.map (some ma), .string e.t.i]).run Try.prog wr.drew = .ok (.tuple #[]) w2 := fun ty => hdr
      have S2 := put _ _ _ _ _ _ _ hM2 ho2 (fun b hb => .inl hb)
      rw [set_front (set_at HK.out _), List.set_set] at S2
      obtain ⟨z, _, hz⟩ := hM.ent e heA
      obtain ⟨z2, _, hz2⟩ := hM2.ent e heA
      have x1 : wr.cell? ⟨g, 1, none⟩ = some (.map (some ma)) := (hM.blk.cell 1).trans (wh1 _ _ _ _)
      have x1d : wr.drew.cell? ⟨g, 1, none⟩ = some (.map (some ma)) := x1
      have z0 : wr.cell? ⟨e.b, 0, none⟩ = some (.string e.t.i) := hz.cell 0
      have z0d : wr.drew.cell? ⟨e.b, 0, none⟩ = some (.string e.t.i) := z0
      have e0 : w2.cell? ⟨e.b, 0, none⟩ = some (.string e.t.i) := hz2.cell 0
      have e1 : w2.cell? ⟨e.b, 1, none⟩ = some (.int .u64 e.t.d) := hz2.cell 1
      obtain ⟨v4, w4, hap, S4⟩ := rows_pushS (k := items.length) (cs := tmC e.t) S2 (get_last (hlen _)) Try.underlying38 ptm_infos rfl (by decide) (by decide) (by omega) rfl (tm_one e.t)
      rw [set_last (hlen _)] at S4
      have HS6 : Hid (Sp.Sep W w4 (items.set k (wX g ma mf v sl t (A.filter (nt (S.take (i + 1)))) A allP) ++ [rowS 41 2 v4 (i + 1) (((S.take (i + 1)).map En.t).flatMap tmC)])) := Lib.hid (by
        have h9 : ((S.take (i + 1)).map En.t).flatMap tmC = ((S.take i).map En.t).flatMap tmC ++ tmC e.t := by
          rw [List.take_add_one, he]
          simp
        rw [h9]
        exact S4)
      change (Builtin.append_ #[38, 38] 38 #[u5, .slice (some ⟨w2.heap.size, 0, none⟩) 1 1]).run Try.prog (w2.alloc (.cells #[.string e.t.i, .int .u64 e.t.d] 41)) = .ok v4 w4 at hap
      clear S1 hk1 hM put hr hc1 hc2 hc3 hc4 hst hky hdr hM2 ho2 S2 hz hz2 S4 HS heA he hvr2 hvr3
      go_wp2_with fail
      go_region_law (refine step_del rfl (.tmp 36) (.tmp 41) rfl (.map (some ma)) (.string e.t.i) (by simp [Act.eval]) (by simp [Act.eval]) hdr2 ?_)
      all_goals (
        clear hdr2 x1 x1d z0 z0d y0
        go_wp2_with (with_reducible refine wpList_append_run (w2.alloc (.cells #[.string e.t.i, .int .u64 e.t.d] 41)) rfl (.tmp 42) (.tmp 47) 38 38 rfl u5 (.slice (some ⟨w2.heap.size, 0, none⟩) 1 1) rfl rfl v4 w4 hap ?_)
        go_roundg (n - (i + 1))
        case measure => have := HGK.out; omega
        case rel => exact ⟨i + 1, by omega, by have := HGK.out; omega, by go_num, HS6⟩)
    · obtain rfl : i = n := by omega
      have hall : S.take i = S := by rw [← HN.out, List.take_length]
      rw [hall] at HS hk1
      obtain ⟨hM, put⟩ := wX_at HS.out hk1
      have y1 : wr.cell? ⟨g, 2 + q, none⟩ = some (.slice Av i cv) := by rw [← HN.out, ← HV.out]; exact (hM.blk.cell _).trans (whk _ _ _ _ (by omega))
      have y2 : wr.frozen? ⟨g, 2 + q, none⟩ = false := hM.blk.frozen _
      have eset : wr.setCell ⟨g, 2 + q, none⟩ (.slice none 0 0) = wr.setRow g (whC t ma mf (clr v q 1 (.slice none 0 0))) := by
        rw [clr_one, set_row hM.blk, wh_set _ _ _ _ (by omega)]
      have S2 := put _ _ _ _ _ _ _ (hM.clear (q := q) (c := 1) (by omega)) ((Only.refl _ _).setRow (.inl (.inl rfl)) _) (fun b hb => .inl (clr_foot hb))
      rw [set_front (set_at HK.out _), List.set_set] at S2
      have S3 := wX_end S2 (get_front (set_at HK.out _))
      rw [set_front (set_at HK.out _), List.set_set] at S3
      have hLA : A.filter (nt S) = A.filter (fun x => allP x && !(inR t q 1 x)) := List.filter_congr fun x hx => by
        rw [Bool.eq_iff_iff]
        have h1 : x ∈ S ↔ ix t x.n = q := by
          rw [HPER.out.mem_iff, List.mem_filter]
          simp [slP, allP, hx]
        simp only [nt, allP, inR, Bool.true_and, Bool.not_eq_true', decide_eq_false_iff_not]
        rw [List.any_eq_false]
        constructor
        · intro h2 h3
          exact h2 x (h1.2 (by omega)) (by simp)
        · intro h2 a ha h3
          have h4 : x.b = a.b := by simpa using h3
          have := nodup_inj HA.out.b hx (HSA.out a ha) h4
          subst this
          have := h1.1 ha
          omega
      have S4 := wI_turn S3 (get_front (set_at HK.out _)) (L' := A.filter (fun x => allP x && !(inR t q 1 x))) (A' := A.filter (fun x => allP x && !(inR t q 1 x))) (p' := allP) (fun _ _ _ _ hm => by
        have := hm.forget
        rw [hLA] at this
        exact this) (fun a ha => (List.mem_filter.1 ha).1)
      rw [set_front (set_at HK.out _), List.set_set] at S4
      have hrl : (S.map En.t).length = i := by rw [List.length_map]; exact HN.out
      have S5 : Sp.Sep W (wr.setRow g (whC t ma mf (clr v q 1 (.slice none 0 0)))) (items.set k (wI g t (A.filter (fun x => allP x && !(inR t q 1 x))) (A.filter (fun x => allP x && !(inR t q 1 x))) allP) ++ [rowS 41 2 u5 (S.map En.t).length ((S.map En.t).flatMap tmC)]) := by
        rw [hrl]
        exact S4
      obtain ⟨Ad, cp, hu5, hcall⟩ := sort_any S5 (by omega)
      rw [hrl] at hu5 hcall
      subst hu5
      have HC := Lib.hid hcall
      have HP : Hid ((S.map En.t).Perm Dl) := Lib.hid (by
        have h1 := HPER.out.map En.t
        refine h1.trans ?_
        rw [← HDL.out]
        unfold dueL
        rw [List.filter_map]
        rw [List.filter_congr (q := (fun a => decide (a.d ≤ (t : Int))) ∘ En.t) fun x hx => by
          have := HDU.out x hx
          simp only [slP, allP, Bool.true_and, Function.comp]
          rw [decide_eq_decide]
          exact this])
      have HO2 : Hid (Ok Dl) := Lib.hid (by rw [← HDL.out]; exact HOK.out.filter _)
      have HLN : Hid (Dl.length = i) := Lib.hid (by rw [← HP.out.length_eq, hrl])
      have HR : Hid ((A.filter (fun x => allP x && !(inR t q 1 x))).map En.t = rest (A.map En.t) (t : Int)) := Lib.hid (by
        unfold rest
        rw [List.filter_map]
        congr 1
        refine List.filter_congr fun x hx => ?_
        have h1 := HDU.out x hx
        rw [Bool.eq_iff_iff]
        simp only [allP, inR, Bool.true_and, Bool.not_eq_true', decide_eq_false_iff_not, Function.comp, decide_eq_true_iff]
        constructor
        · intro h2
          rcases Int.lt_or_le (t : Int) x.t.d with h3 | h3
          · exact h3
          · have := h1.2 h3
            omega
        · intro h2 h3
          have := h1.1 (by omega)
          omega)
      have HAO : Hid (AOk (A.filter (fun x => allP x && !(inR t q 1 x)))) := Lib.hid (HA.out.sub List.filter_sublist)
      generalize A.filter (fun x => allP x && !(inR t q 1 x)) = A2 at *
      clear HS hk1 hM put S2 S3 hLA S4 hrl S5 hcall
      go_upto_region 10 with fail
      clear y1 y2 eset
      generalize wr.setRow g (whC t ma mf (clr v q 1 (.slice none 0 0))) = w5 at *
      go_wp2_with (go_at_call 39; refine HC.out.mono ?_; rintro e3 w6 ⟨rfl, ss, hp, hs, h6⟩; have hss := sorted_is (hp.trans HP.out) HO2.out hs; rw [hss] at h6; have H6 := Lib.hid h6; clear hp hs h6 hss)
      go_ret
      rw [← HLN.out] at H6
      rw [← HLN.out]
      first | exact ⟨Ad, cp, A2, rfl, HAO.out, HR.out, H6.out⟩ | exact ⟨Ad, cp, rfl, A2, HAO.out, HR.out, H6.out⟩ | exact ⟨Ad, ⟨cp, rfl⟩, A2, HAO.out, HR.out, H6.out⟩
end
end Go.Proofs.Ytogfpakopckfoaa.Wl
