/- Rows of records that are built by a loop: the document's Upto, the statements' Refs and Cut. -/
import Derived.Test.YtckakkocblkcoaaReB
namespace Go.Proofs.Ytckakkocblkcoaa.Re
open Go.RowKit Go.Lib
open Sp
set_option linter.unusedVariables false
set_option maxRecDepth 100000

theorem RR.of_row {W w : World} {items : List Sp.Item} {k : Nat} {T : TypeId} {A : Option Addr} {n p : Nat} {L : List Rec} (h : Sp.Sep W w items) (hk : items[k]? = some (rowS T 7 (.slice A n p) n (L.flatMap rcC))) (hn : n = L.length) : RR w A n L :=
  ⟨hn, fun h0 => by
    obtain ⟨g, e, hc⟩ := rows_cell h hk h0
    refine ⟨g, 0, e, fun i j r hi hj => ?_⟩
    have hlt : i < n := by rw [hn]; exact (List.getElem?_eq_some_iff.1 hi).1
    rw [Nat.zero_add, hc _ (by have := Nat.mul_le_mul_right 7 (show i + 1 ≤ n by omega); omega)]
    exact flat_get rcC 7 rcC_len L i r j hi hj⟩
theorem RR.nil (w : World) (A : Option Addr) : RR w A 0 [] := ⟨rfl, fun h => by omega⟩
theorem take_one {α : Type} {L : List α} {i : Nat} {r : α} (h : L[i]? = some r) : L.take (i + 1) = L.take i ++ [r] := by rw [List.take_add_one, h]; rfl
theorem rc_one (r : Rec) : ∀ u ∈ rcC r, u.oneCell' = true := by
  intro u hu
  simp only [rcC, List.mem_cons, List.not_mem_nil, or_false] at hu
  rcases hu with rfl | rfl | rfl | rfl | rfl | rfl | rfl <;> rfl
theorem rrec_infos : (Try.prog.info? 50).map (fun i => (i.zero, i.size, i.bytes)) = some (some (.agg #[.int .u64 0, .int .u32 0, .int .i64 0, .int .u64 0, .int .u64 0, .string ⟨#[]⟩, .string ⟨#[]⟩]), 7, 72) := by kernel_rfl
theorem prec_infos : (Try.prog.info? 42).map (fun i => (i.zero, i.size, i.bytes)) = some (some (.agg #[.int .u64 0, .int .u32 0, .int .i64 0, .int .u64 0, .int .u64 0, .string ⟨#[]⟩, .string ⟨#[]⟩]), 7, 72) := by kernel_rfl
/-- 'x = append(x, ys...)', structs, x not nil. -/
theorem wp_append_l {ops : Array Oper} {rest : List Oper} {o : Oper} {a : Act} {W w : World} {items : List Sp.Item} {Q : Exit → Act → World → Prop} {n p0 g0 : Nat} {xs cs : List Value} {e t : TypeId} {sz bytes : Nat} {z : Value} (hinfo : (Try.prog.info? e).map (fun i => (i.zero, i.size, i.bytes)) = some (some z, sz, bytes)) (hzs : z.cells.size = sz) (hsz : 0 < sz) (hby : bytes ≤ 1000)
    (ht : Try.prog.underlying t = some (.slice e)) (hgd : o.guard = none) (sx xx : Operand)
    (ho : o.op = .call { callee := .builtin .append, args := #[sx, xx], argTypes := #[t, t] }) (hs : a.eval sx = .slice (some ⟨g0, 0, none⟩) n p0) (ad : Addr) (m c : Nat) (hx : a.eval xx = .slice (some ad) m c) (h1 : Sp.Sep W w items) (k : Nat) (hk : items[k]? = some (rowS e sz (.slice (some ⟨g0, 0, none⟩) n p0) n xs)) (hn : n + m < 1000) (hl : cs.length = m * sz)
    (hcs : ∀ j u, cs[j]? = some u → w.cell? (ad.add j) = some u) (h1c : ∀ u ∈ cs, u.oneCell' = true)
    (h : ∀ g' p' w', Sp.Sep W w' (items.set k (rowS e sz (.slice (some ⟨g', 0, none⟩) (n + m) p') (n + m) (xs ++ cs))) → wpList Try.prog ops Q rest (a.put o.dst (.slice (some ⟨g', 0, none⟩) (n + m) p')) w') : wpList Try.prog ops Q (o :: rest) a w := by
  obtain ⟨i0, hi0, hz0, hz1, hz2⟩ := info_parts hinfo
  obtain ⟨G, ⟨hrow, hG⟩, _, _, hstep⟩ := h1.at_ k hk
  have hb : (n + m) * bytes ≤ 140737488355328 := Nat.le_trans (Nat.mul_le_mul (show n + m ≤ 1000 by omega) hby) (by decide)
  refine wpList_append_own_at _ hgd sx xx _ ho 0 e i0 _ sz bytes ht hi0 hz0 hz1 hz2 hzs hsz _ n xs hs hrow ad m c cs hx hl hcs h1c
    (by unfold maxLen; omega) hb (Nat.zero_le _) ?_
  intro v' w' hown hg hnil hat
  have hS := hstep w' (fun b => v'.ownBlock = some b) (rowS e sz v' (n + m) (xs ++ cs)) ⟨hown, fun b => Iff.rfl⟩ (fun b hb => by
    rcases hat with e | e
    · left; exact (hG b).2 (e ▸ hb)
    · right; rw [e] at hb; injection hb with hb; omega) ((Only.refl _ _).grown hg (fun q hq => .inl ((hG q).2 hq)))
  rcases hown.2 with ⟨e1, _⟩ | ⟨g', cap, cur, e1, _⟩
  · have := (hnil.1 e1).1
    cases this
  · subst e1
    exact h g' cap w' hS
theorem new_cells (w : World) (e : TypeId) (cs : List Value) : ∀ j u, cs[j]? = some u → (w.alloc (.cells cs.toArray e)).cell? ((⟨w.heap.size, 0, none⟩ : Addr).add j) = some u := fun j u hu => by
  rw [show (⟨w.heap.size, 0, none⟩ : Addr).add j = ⟨w.heap.size, j, none⟩ by unfold Addr.add; by_cases h : j = 0 <;> simp [h]]
  have := (Sp.Blk.new w e cs.toArray).cell j
  exact this.trans (by simpa using hu)
def upL (L : List Rec) (ver : Int) : List Rec := L.filter fun r => decide (r.v ≤ ver)
set_option maxHeartbeats 16000000 in
theorem rupto_any {w : World} {A : Option Addr} {n p : Nat} {L : List Rec} (ver : Int) (h : RR w A n L) (hn : n < 1000) :
    Calls Try.prog 19 #[.slice A n p, .int .u64 ver] w fun e w' => ∃ A' p', e = .returned (.slice A' (upL L ver).length p') ∧ RR w' A' (upL L ver).length (upL L ver) ∧ Below w.heap.size w w' := by
  have HR := Lib.hid h
  have HN := Lib.hid hn
  have S1 : Sp.Sep w (w.alloc (.cells #[] 50)) [rowS 50 7 (.slice (some ⟨w.heap.size, 0, none⟩) 0 0) 0 []] := rows_lit (Sp.Sep.nil (Below.refl _ _)) 50 7
  clear h hn
  go_enter Try.func19, Try.ntmps19
  go_upto_region 2 with fail
  change Code.wp _ _ _ _ (w.alloc (.cells #[] 50))
  have HI0 := Lib.hid S1
  clear S1
  generalize w.alloc (.cells #[] 50) = w1 at *
  go_wp2_with fail
  go_loopg [5, 6] n (fun gk s5 s6 wr => ∃ (i : Nat) (A' : Option Addr) (p' : Nat), i ≤ n ∧ gk = n - i ∧ s5 = .slice A' (upL (L.take i) ver).length p' ∧ s6 = .int .i64 (i : Nat) ∧ Hid (Sp.Sep w wr [rowS 50 7 (.slice A' (upL (L.take i) ver).length p') (upL (L.take i) ver).length ((upL (L.take i) ver).flatMap rcC)]))
  case atStart => exact ⟨0, _, _, by omega, rfl, rfl, rfl, HI0⟩
  case round =>
    obtain ⟨i, A', p', hi, hgk, rfl, rfl, HI⟩ := hrel
    have HGK := Lib.hid hgk
    clear hgk HI0
    by_cases hlt : i < n
    · have hli : (i : Int) < (n : Int) := by omega
      obtain ⟨r, hr⟩ : ∃ r, L[i]? = some r := ⟨_, List.getElem?_eq_getElem (by rw [← HR.out.len]; exact hlt)⟩
      obtain ⟨g, o, rfl, hc⟩ := HR.out.rc (by omega)
      have R := (hc i r hr).later HI.out.below
      have x0 := R.c0
      have x1 := R.c1
      have x2 := R.c2
      have x3 := R.c3
      have x4 := R.c4
      have x5 := R.c5
      have x6 := R.c6
      have wi : IntKind.i64.wrap ((i : Int) + 1) = (i : Int) + 1 := IntWalk.i64_in _ (by have := HN.out; omega)
      have HT := Lib.hid (take_one hr)
      obtain ⟨m, em⟩ : ∃ m, (upL (L.take i) ver).length = m := ⟨_, rfl⟩
      have hm : m < 1000 := by
        have h1 : (upL (L.take i) ver).length ≤ (L.take i).length := List.length_filter_le _ _
        rw [em, List.length_take] at h1
        have := HN.out
        omega
      have HM := Lib.hid em
      have S := HI.out
      rw [em] at S ⊢
      clear em hc R
      by_cases hv : r.v ≤ ver
      · have HE : Hid (upL (L.take (i + 1)) ver = upL (L.take i) ver ++ [r]) := Lib.hid (by rw [HT.out]; simp [upL, hv])
        have HZS : (Value.agg #[.int .u64 0, .int .u32 0, .int .i64 0, .int .u64 0, .int .u64 0, .string ⟨#[]⟩, .string ⟨#[]⟩]).cells.size = 7 := rfl
        have HLN := rcC_len r
        have HC1 := rc_one r
        go_upto_region 4 with (refine wp_append_s (cs := rcC r) rrec_infos HZS (by decide) (by decide) Try.underlying26 rfl (.tmp 21) (.tmp 26) rfl rfl rfl S 0 rfl hm HLN HC1 ?_; intro v3 w15 h15; clear HZS HLN HC1 x0 x1 x2 x3 x4 x5 x6; obtain ⟨A9, p9, rfl⟩ := rows_slice h15 (k := 0) rfl; have H15 := Lib.hid h15; clear h15 S)
        have E2 : m + 1 = (upL (L.take (i + 1)) ver).length := by rw [HE.out, List.length_append, HM.out]; rfl
        have H16 : Hid (Sp.Sep w w15 [rowS 50 7 (.slice A9 (upL (L.take (i + 1)) ver).length p9) (upL (L.take (i + 1)) ver).length ((upL (L.take (i + 1)) ver).flatMap rcC)]) := Lib.hid (by
          rw [← E2, HE.out, List.flatMap_append]
          exact H15.out)
        clear H15
        go_wp2_with fail
        go_roundg (n - (i + 1))
        case measure => have := HGK.out; omega
        case rel => exact ⟨i + 1, A9, p9, by omega, by have := HGK.out; omega, by rw [E2], by go_num, H16⟩
      · have HE : Hid (upL (L.take (i + 1)) ver = upL (L.take i) ver) := Lib.hid (by rw [HT.out]; simp [upL, hv])
        clear S
        go_wp2_with fail
        go_roundg (n - (i + 1))
        case measure => have := HGK.out; omega
        case rel => exact ⟨i + 1, A', p', by omega, by have := HGK.out; omega, by rw [HE.out, HM.out], by go_num, Lib.hid (by rw [HE.out]; exact HI.out)⟩
    · obtain rfl : n = i := by omega
      have hti : L.take n = L := by rw [HR.out.len, List.take_length]
      have HF := Lib.hid (RR.of_row (L := upL (L.take n) ver) HI.out (k := 0) rfl rfl)
      rw [hti] at HF ⊢
      have HB := Lib.hid HI.out.below
      clear HI hti
      go_wp2_with fail
      go_ret
      first | exact ⟨A', p', rfl, HF.out, HB.out⟩ | exact ⟨A', ⟨p', rfl⟩, HF.out, HB.out⟩
end Go.Proofs.Ytckakkocblkcoaa.Re
