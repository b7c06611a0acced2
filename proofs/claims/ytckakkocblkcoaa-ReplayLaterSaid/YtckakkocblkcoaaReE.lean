/- The statements' own Refs, Cut and Lives: rows that are built by a loop. -/
import Derived.Test.YtckakkocblkcoaaReD
import Derived.Deep.RegionLaw
namespace Go.Proofs.Ytckakkocblkcoaa.Re
open Go.RowKit Go.Lib
open Sp
set_option linter.unusedVariables false
set_option maxRecDepth 100000

/-- A session. -/
structure Ses where
  i : ByteArray
  a : ByteArray
  d : Int
def seC (s : Ses) : List Value := [.string s.i, .string s.a, .int .u64 s.d]
theorem seC_len (s : Ses) : (seC s).length = 3 := rfl
theorem se_one (s : Ses) : ∀ u ∈ seC s, u.oneCell' = true := by
  intro u hu
  simp only [seC, List.mem_cons, List.not_mem_nil, or_false] at hu
  rcases hu with rfl | rfl | rfl <;> rfl
structure SC (w : World) (g o : Nat) (s : Ses) : Prop where
  c0 : w.cell? ⟨g, o, none⟩ = some (.string s.i)
  c1 : w.cell? ⟨g, o + 1, none⟩ = some (.string s.a)
  c2 : w.cell? ⟨g, o + 2, none⟩ = some (.int .u64 s.d)
theorem SC.later {w w' : World} {g o : Nat} {s : Ses} (h : SC w g o s) (hb : Below w.heap.size w w') : SC w' g o s := by
  have k : ∀ (q : Addr) (v : Value), w.cell? q = some v → w'.cell? q = some v := fun q v h => (hb.cell (World.block_lt_of_cell? _ _ h)).trans h
  exact ⟨k _ _ h.c0, k _ _ h.c1, k _ _ h.c2⟩
/-- Sessions that can be read. -/
structure SR (w : World) (A : Option Addr) (n : Nat) (L : List Ses) : Prop where
  len : n = L.length
  c : 0 < n → ∃ g o, A = some ⟨g, o, none⟩ ∧ ∀ i s, L[i]? = some s → SC w g (o + i * 3) s
theorem SR.later {w w' : World} {A : Option Addr} {n : Nat} {L : List Ses} (h : SR w A n L) (hb : Below w.heap.size w w') : SR w' A n L :=
  ⟨h.len, fun h0 => by
    obtain ⟨g, o, e, hc⟩ := h.c h0
    exact ⟨g, o, e, fun i s hi => (hc i s hi).later hb⟩⟩
theorem SR.of_row {W w : World} {items : List Sp.Item} {k : Nat} {T : TypeId} {A : Option Addr} {n p : Nat} {L : List Ses} (h : Sp.Sep W w items) (hk : items[k]? = some (rowS T 3 (.slice A n p) n (L.flatMap seC))) (hn : n = L.length) : SR w A n L :=
  ⟨hn, fun h0 => by
    obtain ⟨g, e, hc⟩ := rows_cell h hk h0
    have hh : ∀ i j s, L[i]? = some s → j < 3 → w.cell? ⟨g, 0 + i * 3 + j, none⟩ = (seC s)[j]? := fun i j s hi hj => by
      have hlt : i < n := by rw [hn]; exact (List.getElem?_eq_some_iff.1 hi).1
      rw [Nat.zero_add, hc _ (by have := Nat.mul_le_mul_right 3 (show i + 1 ≤ n by omega); omega)]
      exact flat_get seC 3 seC_len L i s j hi hj
    exact ⟨g, 0, e, fun i s hi => ⟨hh i 0 s hi (by decide), hh i 1 s hi (by decide), hh i 2 s hi (by decide)⟩⟩⟩
theorem dses_infos : (Try.prog.info? 61).map (fun i => (i.zero, i.size, i.bytes)) = some (some (.agg #[.string ⟨#[]⟩, .string ⟨#[]⟩, .int .u64 0]), 3, 40) := by kernel_rfl
theorem pses_infos : (Try.prog.info? 46).map (fun i => (i.zero, i.size, i.bytes)) = some (some (.agg #[.string ⟨#[]⟩, .string ⟨#[]⟩, .int .u64 0]), 3, 40) := by kernel_rfl
set_option maxHeartbeats 16000000 in
theorem refs_any {w : World} {A : Option Addr} {n p : Nat} {L : List Rec} (h : RR w A n L) (hn : n < 1000) :
    Calls Try.prog 11 #[.slice A n p] w fun e w' => ∃ A' p', e = .returned (.slice A' n p') ∧ RR w' A' n L ∧ Below w.heap.size w w' := by
  have HR := Lib.hid h
  have HN := Lib.hid hn
  have S1 : Sp.Sep w (w.alloc (.cells #[] 50)) [rowS 50 7 (.slice (some ⟨w.heap.size, 0, none⟩) 0 0) 0 []] := rows_lit (Sp.Sep.nil (Below.refl _ _)) 50 7
  clear h hn
  go_enter Try.func11, Try.ntmps11
  go_upto_region 2 with fail
  change Code.wp _ _ _ _ (w.alloc (.cells #[] 50))
  have HI0 := Lib.hid S1
  clear S1
  generalize w.alloc (.cells #[] 50) = w1 at *
  go_wp2_with fail
  go_loopg [3, 4] n (fun gk s3 s4 wr => ∃ (i : Nat) (A' : Option Addr) (p' : Nat), i ≤ n ∧ gk = n - i ∧ s3 = .slice A' i p' ∧ s4 = .int .i64 (i : Nat) ∧ Hid (Sp.Sep w wr [rowS 50 7 (.slice A' i p') i ((L.take i).flatMap rcC)]))
  case atStart => exact ⟨0, _, _, by omega, rfl, rfl, rfl, HI0⟩
  case round =>
    obtain ⟨i, A', p', hi, hgk, rfl, rfl, HI⟩ := hrel
    have HGK := Lib.hid hgk
    clear hgk HI0
    by_cases hlt : i < n
    · have hli : (i : Int) < (n : Int) := by omega
      obtain ⟨r, hr⟩ : ∃ r, L[i]? = some r := ⟨_, List.getElem?_eq_getElem (by rw [← HR.out.len]; exact hlt)⟩
      obtain ⟨g, o, rfl, hc⟩ := HR.out.rc (by omega)
      have R := (hc i r hr).later HI.out.below
      have x0 := R.c0
      have x1 := R.c1
      have x2 := R.c2
      have x3 := R.c3
      have x4 := R.c4
      have x5 := R.c5
      have x6 := R.c6
      have wi : IntKind.i64.wrap ((i : Int) + 1) = (i : Int) + 1 := IntWalk.i64_in _ (by have := HN.out; omega)
      have HT := Lib.hid (take_one hr)
      have hm : i < 1000 := by have := HN.out; omega
      clear hc R
      go_wp2_with fail
      refine (ref_any _ _ _ _ _ _ _ _).mono ?_
      rintro e' w2 ⟨rfl, hb⟩
      have S := HI.out.later hb
      clear x0 x1 x2 x3 x4 x5 x6 hb
      have HZS : (Value.agg #[.int .u64 0, .int .u32 0, .int .i64 0, .int .u64 0, .int .u64 0, .string ⟨#[]⟩, .string ⟨#[]⟩]).cells.size = 7 := rfl
      have HLN := rcC_len r
      have HC1 := rc_one r
      go_upto_region 4 with (refine wp_append_s (cs := rcC r) rrec_infos HZS (by decide) (by decide) Try.underlying26 rfl (.tmp 12) (.tmp 18) rfl rfl rfl S 0 rfl hm HLN HC1 ?_; intro v3 w15 h15; clear HZS HLN HC1; obtain ⟨A9, p9, rfl⟩ := rows_slice h15 (k := 0) rfl; have H15 := Lib.hid h15; clear h15 S)
      have H16 : Hid (Sp.Sep w w15 [rowS 50 7 (.slice A9 (i + 1) p9) (i + 1) ((L.take (i + 1)).flatMap rcC)]) := Lib.hid (by
        rw [HT.out, List.flatMap_append]
        simpa using H15.out)
      clear H15
      go_wp2_with fail
      go_roundg (n - (i + 1))
      case measure => have := HGK.out; omega
      case rel => exact ⟨i + 1, A9, p9, by omega, by have := HGK.out; omega, rfl, by go_num, H16⟩
    · obtain rfl : n = i := by omega
      have hti : L.take n = L := by rw [HR.out.len, List.take_length]
      have H1 := HI.out
      rw [hti] at H1
      have HF := Lib.hid (RR.of_row (L := L) H1 (k := 0) rfl HR.out.len)
      have HB := Lib.hid HI.out.below
      clear HI hti H1
      go_wp2_with fail
      go_ret
      first | exact ⟨A', p', rfl, HF.out, HB.out⟩ | exact ⟨A', ⟨p', rfl⟩, HF.out, HB.out⟩
def cutL (L : List Rec) (m : Nat) : List Rec := (L.take m).map cutR
theorem cutL_len (L : List Rec) (m : Nat) : (cutL L m).length = min m L.length := by simp [cutL]
theorem cutL_one {L : List Rec} {i : Nat} {r : Rec} (h : L[i]? = some r) : cutL L (i + 1) = cutL L i ++ [cutR r] := by unfold cutL; rw [take_one h, List.map_append]; rfl
set_option maxHeartbeats 16000000 in
theorem cutl_any {w : World} {A : Option Addr} {n p : Nat} {L : List Rec} (h : RR w A n L) (hn : n ≤ maxLen) (m : Nat) (hm : m ≤ 500) (hs : ∀ r ∈ L, r.i.size ≤ maxLen ∧ r.a.size ≤ maxLen) :
    Calls Try.prog 9 #[.slice A n p, .int .i64 (m : Int)] w fun e w' => ∃ g' p', e = .returned (.slice (some ⟨g', 0, none⟩) (min m n) p') ∧ Sp.Sep w w' [rowS 42 7 (.slice (some ⟨g', 0, none⟩) (min m n) p') (min m n) ((cutL L m).flatMap rcC)] := by
  have HR := Lib.hid h
  have HN := Lib.hid hn
  have HS := Lib.hid hs
  have S1 : Sp.Sep w (w.alloc (.cells #[] 42)) [rowS 42 7 (.slice (some ⟨w.heap.size, 0, none⟩) 0 0) 0 []] := rows_lit (Sp.Sep.nil (Below.refl _ _)) 42 7
  clear h hn hs
  go_enter Try.func9, Try.ntmps9
  go_upto_region 2 with fail
  change Code.wp _ _ _ _ (w.alloc (.cells #[] 42))
  have HI0 := Lib.hid S1
  clear S1
  generalize w.alloc (.cells #[] 42) = w1 at *
  go_wp2_with fail
  go_loopg [5, 6] m (fun gk s5 s6 wr => ∃ (i g' p' : Nat), i ≤ n ∧ i ≤ m ∧ gk = m - i ∧ s5 = .slice (some ⟨g', 0, none⟩) i p' ∧ s6 = .int .i64 (i : Nat) ∧ Hid (Sp.Sep w wr [rowS 42 7 (.slice (some ⟨g', 0, none⟩) i p') i ((cutL L i).flatMap rcC)]))
  case atStart => exact ⟨0, _, _, by omega, by omega, rfl, rfl, rfl, HI0⟩
  case round =>
    obtain ⟨i, g', p', hi, him, hgk, rfl, rfl, HI⟩ := hrel
    have HGK := Lib.hid hgk
    clear hgk HI0
    by_cases hgo : i < n ∧ i < m
    · obtain ⟨hlt, hlm⟩ := hgo
      have hli : (i : Int) < (n : Int) := by omega
      have hlj : (i : Int) < (m : Int) := by omega
      obtain ⟨r, hr⟩ : ∃ r, L[i]? = some r := ⟨_, List.getElem?_eq_getElem (by rw [← HR.out.len]; exact hlt)⟩
      obtain ⟨g, o, rfl, hc⟩ := HR.out.rc (by omega)
      have R := (hc i r hr).later HI.out.below
      have x0 := R.c0
      have x1 := R.c1
      have x2 := R.c2
      have x3 := R.c3
      have x4 := R.c4
      have x5 := R.c5
      have x6 := R.c6
      have wi : IntKind.i64.wrap ((i : Int) + 1) = (i : Int) + 1 := IntWalk.i64_in _ (by omega)
      have HT := Lib.hid (cutL_one hr)
      have HSZ := Lib.hid (HS.out r (List.mem_of_getElem? hr))
      have hm2 : i < 1000 := by omega
      clear hc R hr
      go_wp2_with fail
      refine (lawcut_any _ _ _ _ _ _ _ _ HSZ.out.1 HSZ.out.2).mono ?_
      rintro e' w2 ⟨rfl, hb⟩
      have S := HI.out.later hb
      clear x0 x1 x2 x3 x4 x5 x6 hb
      have HZS : (Value.agg #[.int .u64 0, .int .u32 0, .int .i64 0, .int .u64 0, .int .u64 0, .string ⟨#[]⟩, .string ⟨#[]⟩]).cells.size = 7 := rfl
      have HLN := rcC_len (cutR r)
      have HC1 := rc_one (cutR r)
      have hm3 : i + 1 < 1000 := by omega
      go_upto_region 4 with (refine wp_append_l (cs := rcC (cutR r)) prec_infos HZS (by decide) (by decide) Try.underlying22 rfl (.tmp 19) (.tmp 25) rfl rfl _ 1 1 rfl (S.alloc _) 0 rfl hm3 HLN (new_cells _ _ _) HC1 ?_; intro g9 p9 w15 h15; clear HZS HLN HC1; have H15 := Lib.hid h15; clear h15 S)
      have H16 : Hid (Sp.Sep w w15 [rowS 42 7 (.slice (some ⟨g9, 0, none⟩) (i + 1) p9) (i + 1) ((cutL L (i + 1)).flatMap rcC)]) := Lib.hid (by
        rw [HT.out, List.flatMap_append]
        simpa using H15.out)
      clear H15
      go_wp2_with fail
      go_roundg (m - (i + 1))
      case measure => have := HGK.out; omega
      case rel => exact ⟨i + 1, g9, p9, by omega, by omega, by have := HGK.out; omega, rfl, by go_num, H16⟩
    · have he : i = min m n := by omega
      have hcl : cutL L i = cutL L m := by
        have := HR.out.len
        unfold cutL
        rcases Nat.lt_or_ge m n with h1 | h1
        · rw [show i = m by omega]
        · rw [show i = n by omega, this, List.take_length, List.take_of_length_le (by omega)]
      have H1 := HI.out
      rw [hcl] at H1
      have HF : Hid (Sp.Sep w wr [rowS 42 7 (.slice (some ⟨g', 0, none⟩) (min m n) p') (min m n) ((cutL L m).flatMap rcC)]) := Lib.hid (by rw [← he]; exact H1)
      have HE := Lib.hid he
      clear H1 hcl he
      have E : Ending.returned (Value.slice (some ⟨g', 0, none⟩) i p') = .returned (.slice (some ⟨g', 0, none⟩) (min m n) p') := by rw [← HE.out]
      by_cases hlt : (i : Int) < (n : Int)
      · have hlj : ¬ (i : Int) < (m : Int) := by omega
        go_wp2_with fail
        go_ret
        first | exact ⟨g', p', E, HF.out⟩ | exact ⟨g', ⟨p', E⟩, HF.out⟩
      · go_wp2_with fail
        go_ret
        first | exact ⟨g', p', E, HF.out⟩ | exact ⟨g', ⟨p', E⟩, HF.out⟩
end Go.Proofs.Ytckakkocblkcoaa.Re
