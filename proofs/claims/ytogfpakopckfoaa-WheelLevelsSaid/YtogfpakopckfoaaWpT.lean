/- The program's Advance, and all that the statements ask of the program's wheel. -/
import Derived.Test.YtogfpakopckfoaaWpS
namespace Go.Proofs.Ytogfpakopckfoaa.Wl
open Go.RowKit Go.Lib Go.Maps
open Sp
set_option linter.unusedVariables false
set_option maxRecDepth 100000

section
variable {W w w' : World} {items J : List Sp.Item} {k g t n ma mf : Nat} {v : Nat → Value} {sl : Nat → List En} {l : List En} {L A : List En} {p : En → Bool} {e : En}
/-- Time goes on: what is placed stands where it stood. -/
theorem MemW.time (h : MemW w g ma mf v sl t L A p) {T : Nat} (hT : ∀ x ∈ A, p x = true → ix T x.n = ix t x.n) : MemW (w.setRow g (whC T ma mf v)) g ma mf v sl T L A p := by
  obtain ⟨q1, q2, q3, q4, q5, q6⟩ := h.part (w' := w.setRow g (whC T ma mf v)) (fun b => b = g) (fun b _ hb => setRow_other _ _ _ _ hb)
  have hf : ∀ q, A.filter (slP T p q) = A.filter (slP t p q) := fun q => List.filter_congr fun x hx => by
    cases hp : p x with
    | false => simp [slP, hp]
    | true => simp [slP, hT x hx hp]
  exact { blk := h.blk.row _, am := q2 h.g_m.1.symm, fm := by rw [hf]; exact q3 h.g_m.2.symm, ne := h.ne, ent := fun a ha => q4 a ha (h.g_e ha).symm, row := fun q hq => q5 q hq (fun b hb => h.r_g hq hb), at_ := fun q hq j a ha => q6 q hq j a ha (h.g_e ((h.in_sl hq).1 (List.mem_of_getElem? ha)).1).symm, per := fun q hq => by rw [hf]; exact h.per q hq, own := h.own }
set_option maxHeartbeats 8000000 in
theorem advance_any {s : Wh} (n : Int) (h : Sp.Sep W w items) (hk : items[k]? = some (WI g s)) (hG : Good s) (hn : 0 ≤ n ∧ n < 18446744073709551616) :
    Calls Try.prog 17 #[.pointer (some ⟨g, 0, none⟩), .int .u64 n] w fun e w' => ∃ A p, e = .returned (.slice A (dueL s.l (max s.t n)).length p) ∧ Sp.Sep W w' (items.set k (WI g (advW s n)) ++ [trI A (dueL s.l (max s.t n)).length (dueL s.l (max s.t n))]) := by
  obtain ⟨A, hA, hl, ht, h1⟩ := WI_open h hk
  have htt : s.t.toNat < 18446744073709551616 := by have := hG.t; omega
  have hOk := hG.ok
  unfold advW
  generalize s.t.toNat = t at *
  obtain ⟨st, sl0⟩ := s
  simp only at hl ht hOk
  subst hl ht
  simp only
  obtain ⟨T, hT⟩ : ∃ T : Nat, max (t : Int) n = (T : Int) := ⟨(max (t : Int) n).toNat, by omega⟩
  have hT2 : max n (t : Int) = (T : Int) := by omega
  have htT : t ≤ T := by omega
  have hT64 : T < 18446744073709551616 := by omega
  rw [hT]
  obtain ⟨ma0, mf0, v0, sl0, hM0, _⟩ := wI_take h1 (set_at hk _)
  have x0 : w.cell? ⟨g, 0, none⟩ = some (.int .u64 (t : Int)) := (hM0.blk.cell 0).trans (wh0 _ _ _ _)
  have HN := Lib.hid (near_any h1 (set_at hk _) hA hT64 htT)
  rw [List.set_set] at HN
  have HK := Lib.hid hk
  have HA := Lib.hid hA
  have HTT := Lib.hid htT
  have HT64 := Lib.hid hT64
  have HOK := Lib.hid hOk
  have HT2 := Lib.hid hT2
  clear h hk hA h1 hM0 hG htt hOk hT htT hT64
  go_enter Try.func17, Try.ntmps17
  go_upto_region 2 with fail
  clear x0 hT2
  go_upto_region 3 with (first
    | (go_at_call 32; refine HN.out.mono ?_; rintro e3 w3 ⟨v1, l1, rfl, hp1, h3⟩; have HP1 := Lib.hid hp1; have hf := far_any h3 (get_front (set_at HK.out _)) HA.out HT64.out HTT.out; have HF := Lib.hid hf; clear hp1 h3 hf)
    | (go_at_call 33; refine HF.out.mono ?_; rintro e4 w4 ⟨v2, l2, rfl, hp2, h4⟩; rw [set_front (set_at HK.out _), List.set_set] at h4; have HP2 := Lib.hid hp2; have hb1 : l1.length ≤ 200 := (by rw [HP1.out.length_eq]; exact Nat.le_trans (List.length_filter_le _ _) HA.out.n); have hb2 : l2.length ≤ 200 := (by rw [hp2.length_eq]; exact Nat.le_trans (List.length_filter_le _ _) HA.out.n); obtain ⟨v3, w5, hrun, h5⟩ := app_rows h4 (by omega) 62; have H5 := Lib.hid h5; clear hp2 h4 h5 HF hb1 hb2)
    | (refine wpList_append_run _ rfl (.tmp 14) (.tmp 17) 62 62 rfl _ _ rfl rfl _ _ hrun ?_; clear hrun))
  obtain ⟨ma, mf, v, sl, hM, put⟩ := wI_take H5.out (get_front (set_at HK.out _))
  have hgn : ∀ x ∈ A, ((allP x && !(em t T (ix t x.n))) && !(farG t T x)) = true → ix T x.n = ix t x.n := fun x hx h1 => by
    refine moved HTT.out HT64.out (en_n HA.out hx).2 ?_
    simp only [allP, Bool.true_and, Bool.and_eq_true, Bool.not_eq_true'] at h1
    unfold gn
    rw [h1.1]
    have h2 := h1.2
    unfold farG frr at h2
    rw [Bool.false_or, Bool.and_assoc]
    exact h2
  have hM2 := hM.time hgn
  have S6 := put _ _ _ _ _ _ _ hM2 ((Only.refl _ _).setRow (.inl (.inl rfl)) _) (fun b hb => .inl hb)
  rw [set_front (set_at HK.out _), List.set_set] at S6
  have y0 : w5.cell? ⟨g, 0, none⟩ = some (.int .u64 (t : Int)) := (hM.blk.cell 0).trans (wh0 _ _ _ _)
  have y1 : w5.frozen? ⟨g, 0, none⟩ = false := hM.blk.frozen 0
  have eset : w5.setCell ⟨g, 0, none⟩ (.int .u64 (T : Int)) = w5.setRow g (whC T ma mf v) := by rw [set_row hM.blk, wh_time]
  have S7 := Lib.hid S6
  clear hM put hgn hM2 S6
  go_upto_region 4 with fail
  clear eset y0 y1
  generalize w5.setRow g (whC T ma mf v) = w6 at *
  have hperm : (l1 ++ l2).Perm (A.filter (fun x => !((allP x && !(em t T (ix t x.n))) && !(farG t T x)))) := (HP1.out.append HP2.out).trans (two_perm (fun e _ => by
    cases em t T (ix t e.n) <;> cases farG t T e <;> simp [allP]) (fun e _ he => by
    cases h9 : em t T (ix t e.n) <;> simp [allP, h9] at he ⊢))
  have hmem : ∀ e ∈ l1 ++ l2, e ∈ A ∧ ((allP e && !(em t T (ix t e.n))) && !(farG t T e)) = false := fun e he => by
    obtain ⟨q1, q2⟩ := List.mem_filter.1 (hperm.mem_iff.1 he)
    have q3 : (!((allP e && !(em t T (ix t e.n))) && !(farG t T e))) = true := q2
    rw [Bool.not_eq_true'] at q3
    exact ⟨q1, q3⟩
  have hnb : ((l1 ++ l2).map En.b).Nodup := (hperm.map En.b).nodup_iff.2 ((List.filter_sublist.map En.b).nodup HA.out.b)
  have hlen : (l1 ++ l2).length ≤ 200 := by rw [hperm.length_eq]; exact Nat.le_trans (List.length_filter_le _ _) HA.out.n
  have hput : ∀ x ∈ A, allP x = putP (fun x => (allP x && !(em t T (ix t x.n))) && !(farG t T x)) (l1 ++ l2) x := fun x hx => by
    cases h9 : ((allP x && !(em t T (ix t x.n))) && !(farG t T x)) with
    | true =>
      show allP x = (((allP x && !(em t T (ix t x.n))) && !(farG t T x)) || (l1 ++ l2).any (fun a => x.b == a.b))
      rw [h9]
      rfl
    | false =>
      have h8 : x ∈ l1 ++ l2 := hperm.mem_iff.2 (List.mem_filter.2 ⟨hx, by simp [h9]⟩)
      have h7 : (l1 ++ l2).any (fun a => x.b == a.b) = true := List.any_eq_true.2 ⟨x, h8, by simp⟩
      simp only [putP, h7, Bool.or_true]
      rfl
  have HE := Lib.hid (each_any S7.out (set_at HK.out _) HA.out HT64.out hmem hnb hlen)
  rw [List.set_set] at HE
  have HPU := Lib.hid hput
  clear hperm hmem hnb hlen hput S7 H5 HP1 HP2
  have hmf : ∀ (fn : Fn) (first cap : Array Value) (w : World), (Instr.makeFunc fn first cap).run Try.prog w = .ok (.func fn first cap) w := fun _ _ _ _ => rfl
  go_upto_region 5 with (go_at_call 34; refine HE.out.mono ?_; rintro e7 w7 ⟨rfl, h7⟩; have H7 := Lib.hid h7; clear h7)
  have h8 := wI_congr (sep_drop H7.out) (set_at HK.out _) (p' := allP) (fun x hx => HPU.out x hx)
  rw [List.set_set] at h8
  have HTL := Lib.hid (tell_any h8 (set_at HK.out _) HA.out HT64.out HOK.out)
  simp only [List.set_set] at HTL
  obtain ⟨Dl, hDl⟩ : ∃ D, dueL (A.map En.t) (T : Int) = D := ⟨_, rfl⟩
  have HDL := Lib.hid hDl
  rw [hDl] at HTL
  clear h8 H7 HE HPU hDl hmf
  go_wp2_with (go_at_call 35; refine HTL.out.mono ?_; rintro e8 w8 ⟨Ad, cp, A2, rfl, hA2, hr2, h9⟩; have HA2 := Lib.hid hA2; have HR2 := Lib.hid hr2; have H9 := Lib.hid h9; clear hA2 hr2 h9)
  go_ret
  have h10 := WI_shut H9.out (get_front (set_at HK.out _)) HA2.out
  rw [set_front (set_at HK.out _), List.set_set, HR2.out] at h10
  rw [HDL.out]
  first | exact ⟨Ad, cp, rfl, h10⟩ | exact ⟨Ad, ⟨cp, rfl⟩, h10⟩
end
/-- What the statements ask of the program. -/
theorem prg : Prg WI where
  pl a b w ha hb := (place_any a b w ha hb).mono fun e w' ⟨he, hw⟩ => ⟨he, by rw [hw]; exact Below.refl _ _⟩
  nw t h ht := new_any t h ht
  no h hk _ := now_any h hk
  ln h hk _ := len_any h hk
  st i d h hk hG hn hd hi := set_any i d h hk hG hn hd hi
  cn i h hk hG hi := cancel_any i h hk hG hi
  fd i h hk _ hi := find_any i h hk hi
  ad n h hk hG hn := advance_any n h hk hG hn
  lv h hk _ := levels_any h hk
#print axioms prg
end Go.Proofs.Ytogfpakopckfoaa.Wl
