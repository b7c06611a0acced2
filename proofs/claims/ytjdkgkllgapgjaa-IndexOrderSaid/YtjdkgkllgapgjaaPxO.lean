/- The program's Gone. -/
import Derived.Test.YtjdkgkllgapgjaaPxN
namespace Go.Proofs.Ytjdkgkllgapgjaa.Px
open Go.RowKit Go.Lib Go.Maps
open Re (Rec Key new_cells rcA isL below_drewN key_total)
open Ix
open Sp
set_option linter.unusedVariables false
set_option linter.unusedSimpArgs false
set_option maxRecDepth 100000

section
variable {W w w' : World} {items : List Sp.Item} {k g : Nat} {x : Idx} {t : St}
/-- After some of a segment's records have left. -/
structure Gn (t tj : St) (x : Idx) (s : Int) (j : Nat) : Prop where
  g : tj.g = t.g
  q : tj.q = t.q
  sl : tj.sl = t.sl
  S : Stn tj (offs s ((slots x.S s).take j) x.S) (fun z => z = s)
  E : Ent tj (offsL s ((slots x.S s).take j) x.L)
theorem gn_leave {tj : St} {s : Int} {j : Nat} (hG : Ix.Good x) (hS0 : Stn t x.S noX) (hq0 : (t.q s).isSome = true) (h : Gn t tj x s j) {p : Int} (hj : (slots x.S s)[j]? = some p) (hs : I64 s) (h1 : Sp.Sep W w items) (hk : items[k]? = some (mI tj)) :
    ∃ tn, Gn t tn x s (j + 1) ∧ I64 p ∧ Calls Try.prog 26 #[.pointer (some ⟨t.g, 0, none⟩), .agg #[.int .i64 s, .int .i64 p]] w fun e w' => e = .returned (.tuple #[]) ∧ Sp.Sep W w' (items.set k (mI tn)) := by
  obtain ⟨c, hc, rfl, rfl⟩ := slots_at hG.u hj
  have hsub : ∀ a ∈ offs c.s ((slots x.S c.s).take j) x.S, a ∈ x.S := fun a ha => (List.mem_filter.1 ha).1
  have hsubL : ∀ a ∈ offsL c.s ((slots x.S c.s).take j) x.L, a ∈ x.L := fun a ha => (List.mem_filter.1 ha).1
  have hU : Uq (offs c.s ((slots x.S c.s).take j) x.S) := List.Pairwise.filter _ hG.u
  have hUp : Up (offsL c.s ((slots x.S c.s).take j) x.L) := List.Pairwise.filter _ hG.o
  have hst : ∀ a ∈ offsL c.s ((slots x.S c.s).take j) x.L, ∃ d ∈ offs c.s ((slots x.S c.s).take j) x.S, d.i = a.i ∧ d.s = a.s ∧ d.p = a.p := fun a ha => by
    obtain ⟨ha1, ha2⟩ := List.mem_filter.1 ha
    obtain ⟨d, hd, e1, e2, e3⟩ := hG.st a ha1
    exact ⟨d, List.mem_filter.2 ⟨hd, by rw [e2, e3]; exact ha2⟩, e1, e2, e3⟩
  have hrc := h.S.rg c hc
  have hq : ∀ a ∈ offsL c.s ((slots x.S c.s).take j) x.L, (tj.q a.s).isSome = true := fun a ha => by
    rw [h.q]
    obtain ⟨d, hd, _, e2, _⟩ := hst a ha
    exact (hS0.q a.s id).2 ⟨d, hsub d hd, e2⟩
  have hlen := hG.m
  have hlS := hG.n
  have hfp : tj.fp (locK c.s c.p) = some (.string c.i) := by
    rw [h.S.fp _ _ hrc.1 hrc.2]
    have : (offs c.s ((slots x.S c.s).take j) x.S).find? (isAt c.s c.p) = some c := by
      cases hf : (offs c.s ((slots x.S c.s).take j) x.S).find? (isAt c.s c.p) with
      | none => exact absurd ⟨rfl, rfl⟩ (at_none (x := ⟨_, []⟩).1 hf c hc)
      | some d =>
        obtain ⟨h1, h2, h3⟩ := at_some (x := ⟨_, []⟩) hf
        rw [uq_one hU h1 hc ⟨h2, h3⟩]
    rw [this]
    rfl
  have hci : c.i.size ≤ maxLen := by have := hG.i c (hsub c hc); unfold maxLen; omega
  have hlv := leave_any h1 hk hci hrc.1 hrc.2 hfp (LC := x.S.map Std.key) (fun k hk => by
      rw [h.S.fc] at hk
      obtain ⟨a, ha, e⟩ := cnt0_some hk
      exact List.mem_map.2 ⟨a, hsub a ha, by simpa using e⟩) (by rw [List.length_map]; omega) (by
      rw [h.S.fc, cnt0_get]
      have h5 : cntK (offs c.s ((slots x.S c.s).take j) x.S) c.i.toList ≤ (offs c.s ((slots x.S c.s).take j) x.S).length := List.countP_le_length
      have h6 : (offs c.s ((slots x.S c.s).take j) x.S).length ≤ x.S.length := List.length_filter_le _ _
      unfold Sm
      omega) (fun a ha => by
      rw [h.E.nw] at ha
      have ha' := (fnd_some (x := ⟨[], _⟩) ha).1
      have hz := hG.z a (hsubL a ha')
      obtain ⟨d, hd, _, e2, _⟩ := hst a ha'
      refine fine_gen h.E (Nat.le_trans (List.length_filter_le _ _) (by omega)) (fun b hb => by have := hG.z b (hsubL b hb); omega) a (hq a ha') (by rw [← e2]; exact (h.S.rg d hd).1) (by omega) _ (.inr rfl))
  have hg := lev_g tj c.i c.s c.p
  have htk : (slots x.S c.s).take (j + 1) = (slots x.S c.s).take j ++ [c.p] := by rw [List.take_add_one, hj]; rfl
  refine ⟨levT tj c.i c.s c.p, ⟨hg.1.trans h.g, hg.2.1.trans h.q, hg.2.2.trans h.sl, ?_, ?_⟩, hrc.2, ?_⟩
  · rw [htk, (offs_step c.s c.p _ x.S x.L).1]
    exact h.S.levT hU hc rfl
  · rw [htk, (offs_step c.s c.p _ x.S x.L).2]
    exact h.E.leave hUp hU hst hc hq
  · rw [h.g] at hlv
    exact hlv
set_option maxHeartbeats 8000000 in
theorem go_any (s : Int) (h : Sp.Sep W w items) (hk : items[k]? = some (XI g x)) (hG : Ix.Good x) (hs : I64 s) :
    Calls Try.prog 19 #[.pointer (some ⟨g, 0, none⟩), .int .i64 s] w fun e w' => e = .returned (.int .i64 (goneN x s : Nat)) ∧ Sp.Sep W w' (items.set k (XI g (goneX x s))) := by
  obtain ⟨t, rfl, hS, hE, h1⟩ := XI_open h hk
  have hk1 := set_at hk (mI t)
  have x1 := ix1 h1 hk1
  have hl := (q_look h1 hk1 hs).1
  cases hq : t.q s with
  | none =>
    rw [hq] at hl
    change _ = Result.ok (Value.tuple #[.pointer none, .bool false]) w at hl
    have hqn : ¬ (t.q s).isSome = true := by rw [hq]; decide
    have hnoL := no_ent hG hS hqn
    have hnoS : ∀ a ∈ x.S, ¬ a.s = s := fun a ha e => hqn ((hS.q s id).2 ⟨a, ha, e⟩)
    have HR : Hid (goneN x s = 0 ∧ goneX x s = x) := Lib.hid (by
      have e1 : goneX x s = x := by
        unfold goneX
        rw [List.filter_eq_self.2 fun a ha => by simpa using hnoS a ha, List.filter_eq_self.2 fun a ha => by simpa using hnoL a ha]
      refine ⟨?_, e1⟩
      unfold goneN
      rw [e1]
      omega)
    have HS := Lib.hid h
    have HK := Lib.hid hk
    clear h hk hG hs hS hE h1 hk1 hq hqn hnoL hnoS
    go_enter Try.func19, Try.ntmps19
    go_wp2_with fail
    go_ret
    rw [HR.out.1, HR.out.2, set_same HK.out]
    exact ⟨rfl, HS.out⟩
  | some e =>
    obtain ⟨eb, ev, em⟩ := e
    rw [hq] at hl
    change _ = Result.ok (Value.tuple #[.pointer (some ⟨eb, 0, none⟩), .bool true]) w at hl
    have hqs : (t.q s).isSome = true := by rw [hq]; rfl
    have hsl := hS.sl s id hqs
    obtain ⟨n, hn⟩ : ∃ n, (slots x.S s).length = n := ⟨_, rfl⟩
    have hrow := (mI_at h1 hk1).ok (.r s) ⟨eb, ev, em⟩ hq
    change w.ownsRow 0 3 1 ev (t.sl s).length ((t.sl s).map intV) at hrow
    rw [hsl, hn] at hrow
    obtain ⟨A, c, hev⟩ := row_at hrow
    subst hev
    have y0 : w.cell? ⟨eb, 0, none⟩ = some (.slice A n c) := (sgb h1 hk1 hq).cell 0
    have HG := Lib.hid hG
    have HS0 := Lib.hid hS
    have HQ := Lib.hid hq
    have HQS := Lib.hid hqs
    have HSL := Lib.hid hsl
    have HN := Lib.hid hn
    have HI := Lib.hid hs
    have HK := Lib.hid hk
    have hn200 : n ≤ 200 := by
      rw [← hn]
      unfold slots
      rw [List.length_map]
      exact Nat.le_trans (List.length_filter_le _ _) hG.n
    have HN2 := Lib.hid hn200
    have H0 : Hid (∃ tj, Gn t tj x s 0 ∧ Sp.Sep W w (items.set k (mI tj))) := Lib.hid ⟨t, ⟨rfl, rfl, rfl, by rw [List.take_zero, (offs_nil s x.S x.L).1]; exact hS.weak s hqs, by rw [List.take_zero, (offs_nil s x.S x.L).2]; exact hE⟩, h1⟩
    have hgl := gone_len x s
    rw [hn] at hgl
    have HGL := Lib.hid hgl
    clear h hk hG hs hS hE h1 hk1 hq hqs hsl hn hrow hn200 hgl
    go_enter Try.func19, Try.ntmps19
    go_upto_region 5 with fail
    go_loopg [25] n (fun gk s25 wr => ∃ (q : Nat), q ≤ n ∧ gk = n - q ∧ s25 = .int .i64 (q : Nat) ∧ Hid (∃ tj, Gn t tj x s q ∧ Sp.Sep W wr (items.set k (mI tj))))
    case atStart => exact ⟨0, by omega, rfl, rfl, H0⟩
    case round =>
      obtain ⟨q, hq, hgk, rfl, HJ⟩ := hrel
      have HGK := Lib.hid hgk
      clear hgk x1 hl y0 H0
      obtain ⟨tj, hgn, hsep⟩ := HJ.out
      have hkj := set_at HK.out (mI tj)
      by_cases hlt : q < n
      · have hl1 : (q : Int) < (n : Int) := by omega
        have wi : IntKind.i64.wrap ((q : Int) + 1) = (q : Int) + 1 := IntWalk.i64_in _ (by have := HN2.out; omega)
        obtain ⟨p, hp⟩ : ∃ p, (slots x.S s)[q]? = some p := ⟨_, List.getElem?_eq_getElem (by rw [HN.out]; exact hlt)⟩
        have hrow := (mI_at hsep hkj).ok (.r s) ⟨eb, .slice A n c, em⟩ (by rw [hgn.q]; exact HQ.out)
        change wr.ownsRow 0 3 1 (.slice A n c) (tj.sl s).length ((tj.sl s).map intV) at hrow
        rw [hgn.sl, HSL.out, HN.out] at hrow
        obtain ⟨ga, ca, hva, hca⟩ := row_get hrow (by omega)
        injection hva with e1 e2 e3
        subst e1
        have c0 : wr.cell? ⟨ga, q, none⟩ = some (.int .i64 p) := hca q _ (by rw [List.getElem?_map, hp]; rfl)
        obtain ⟨tn, hgn2, hpr, hlv⟩ := gn_leave HG.out HS0.out HQS.out hgn hp HI.out hsep hkj
        rw [List.set_set] at hlv
        have HLV := Lib.hid hlv
        have HGN2 := Lib.hid hgn2
        clear hgn hsep hkj hrow hca hlv hgn2 hp e2 e3 HJ
        go_wp2_with (go_at_call 26; refine HLV.out.mono ?_; rintro e5 w5 ⟨rfl, h5⟩; have H5 := Lib.hid h5; clear h5)
        go_roundg (n - (q + 1))
        case measure => have := HGK.out; omega
        case rel => exact ⟨q + 1, by omega, by have := HGK.out; omega, by go_num, Lib.hid ⟨tn, HGN2.out, H5.out⟩⟩
      · obtain rfl : q = n := by omega
        have hl1 : ¬ (q : Int) < (q : Int) := by omega
        obtain ⟨w2, hrun, h2, hgr⟩ := q_del hsep hkj HI.out
        have x1 := ix1 hsep hkj
        rw [hgn.g] at x1
        have hd := hrun 0
        change (Builtin.delete_ #[54, 3] 0 #[.map (some tj.ms), .int .i64 s]).run Try.prog wr = _ at hd
        have hqj : tj.q s = some ⟨eb, .slice A q c, em⟩ := by rw [hgn.q]; exact HQ.out
        have hB := sgb hsep hkj hqj
        have hne : eb ≠ tj.ms := fun e1 => by
          have h5 : tj.at_ (.b s) = some eb := by simp [St.at_, hqj]
          have := (mI_at hsep hkj).inj (.b s) .s eb h5 (by rw [e1]; rfl)
          cases this
        have hsl0 : sgC tj s ⟨eb, .slice A q c, em⟩ = #[.slice A q c, .map (some em), .int .i64 (tj.nn s), .int .i64 (tj.nl s), .int .i64 (tj.nz s)] := rfl
        have y0 : w2.cell? ⟨eb, 0, none⟩ = some (.slice A q c) := (World.cell?_of_block (w := wr) (hgr.block eb hB.lt (fun e1 => hne (by injection e1)))).trans (hB.cell 0)
        have hall : (slots x.S s).take q = slots x.S s := by rw [← HN.out, List.take_length]
        have hgS := hgn.S
        have hgE := hgn.E
        rw [hall] at hgS hgE
        have hgx := offs_all HG.out.st s
        have hnoS : ∀ a ∈ offs s (slots x.S s) x.S, ¬ a.s = s := fun a ha => by
          have e1 : offs s (slots x.S s) x.S = (goneX x s).S := by rw [← hgx]
          rw [e1] at ha
          simpa using (List.mem_filter.1 ha).2
        rw [List.set_set] at h2
        have hfin := XI_shut h2 (set_at HK.out _) (hgS.gone hnoS) (hgE.gone s)
        rw [List.set_set, show (tj.qD s).g = t.g from hgn.g, hgx] at hfin
        have HFIN := Lib.hid hfin
        clear hgn hsep hkj hrun h2 hgr hqj hB hne hsl0 hall hgS hgE hgx hnoS hfin HJ
        go_wp2_with fail
        go_ret
        rw [HGL.out]
        exact ⟨rfl, HFIN.out⟩
end
end Go.Proofs.Ytjdkgkllgapgjaa.Px
