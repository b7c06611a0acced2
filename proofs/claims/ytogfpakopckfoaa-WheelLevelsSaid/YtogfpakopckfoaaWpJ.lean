/- The program's Set. -/
import Derived.Test.YtogfpakopckfoaaWpI
namespace Go.Proofs.Ytogfpakopckfoaa.Wl
open Go.RowKit Go.Lib Go.Maps
open Sp
set_option linter.unusedVariables false
set_option maxRecDepth 100000

def insE (e : En) (A : List En) : List En := A.takeWhile (fun a => ahd a.t e.t) ++ e :: A.dropWhile (fun a => ahd a.t e.t)
theorem insE_map (e : En) (A : List En) : (insE e A).map En.t = ins e.t (A.map En.t) := by
  unfold insE ins
  rw [List.map_append, List.map_cons, List.takeWhile_map, List.dropWhile_map]
  rfl
theorem insE_perm (e : En) (A : List En) : (insE e A).Perm (e :: A) := by
  unfold insE
  refine List.perm_middle.trans ?_
  rw [List.takeWhile_append_dropWhile]
section
variable {W w w' : World} {items : List Sp.Item} {k g t ma mf : Nat} {v : Nat → Value} {sl : Nat → List En} {L A : List En} {p : En → Bool} {e : En}
theorem AOk.ins (hA : AOk A) (hk : ∀ a ∈ A, a.key ≠ e.key) (hb : ∀ a ∈ A, a.b ≠ e.b) (hn : A.length < 200) (hd : 0 ≤ e.t.d ∧ e.t.d < 18446744073709551616) (hi : e.t.i.size ≤ 1000) : AOk (insE e A) := by
  refine AOk.perm ⟨?_, ?_, by rw [List.length_cons]; omega, fun a ha => ?_, fun a ha => ?_⟩ (insE_perm e A).symm
  · rw [List.map_cons, List.nodup_cons]
    exact ⟨fun h => by obtain ⟨a, ha, e1⟩ := List.mem_map.1 h; exact hk a ha e1, hA.k⟩
  · rw [List.map_cons, List.nodup_cons]
    exact ⟨fun h => by obtain ⟨a, ha, e1⟩ := List.mem_map.1 h; exact hb a ha e1, hA.b⟩
  · rcases List.mem_cons.1 ha with rfl | ha
    · exact hd
    · exact hA.d a ha
  · rcases List.mem_cons.1 ha with rfl | ha
    · exact hi
    · exact hA.i a ha
/-- A new entry, in a new block, in the map of all, that stands nowhere yet. -/
theorem MemW.add (h : MemW w g ma mf v sl t A A allP) (hn : A.length < 200) (hb : e.b = w.heap.size) (hk : ∀ a ∈ A, a.key ≠ e.key) (hi : e.t.i.size ≤ 1000) :
    ∃ w2, (Instr.mapUpdate 61 (.map (some ma)) (.string e.t.i) e.ptr).run Try.prog (w.alloc (.cells (enC e 0) 77)) = .ok () w2 ∧
      MemW w2 g ma mf v sl t (insE e A) (insE e A) (outP e) ∧ Only (Foot g ma mf v A) w w2 ∧ (∀ b, Foot g ma mf v (insE e A) b → Foot g ma mf v A b ∨ w.heap.size ≤ b) := by
  have h1 : MemW (w.alloc (.cells (enC e 0) 77)) g ma mf v sl t A A allP := h.same (fun b hb => Below.heap_alloc _ _ _ (h.lt b hb))
  have hB : Sp.Blk (w.alloc (.cells (enC e 0) 77)) e.b 77 (enC e 0) := Sp.Blk.at_ _ _ _ hb.symm
  obtain ⟨w2, hrun, h2, h3⟩ := map_put h1.am (by omega) hi hk
  have hne : ∀ a ∈ A, a.b ≠ e.b := fun a ha => by
    have := h.lt a.b (.inr (.inr (.inr (.inl ⟨a, ha, rfl⟩))))
    omega
  have hf : ∀ q, ((insE e A).filter (slP t (outP e) q)).Perm (A.filter (slP t allP q)) := fun q => by
    refine ((insE_perm e A).filter _).trans ?_
    rw [List.filter_cons_of_neg (by simp [slP, outP])]
    rw [List.filter_congr (q := slP t allP q) fun x hx => by simp [slP, outP, allP, hne x hx]]
  obtain ⟨q1, q2⟩ := h1.turned (.inl rfl) h3 (L' := e :: A) (p' := allP) h2 (h1.fm.same (h3.block mf (h1.lt mf (.inr (.inr (.inl rfl)))) (fun e1 => h.ne (by injection e1 with e1; exact e1.symm)))) (fun k hk => rfl)
  have hB2 : Sp.Blk w2 e.b 77 (enC e 0) := (h3.block e.b hB.lt (fun e1 => by
    have := h.lt ma (.inr (.inl rfl))
    injection e1 with e1
    omega)).trans hB
  refine ⟨w2, hrun, { blk := q1.blk, am := q1.am.perm (insE_perm e A).symm, fm := q1.fm.perm (hf 64).symm, ne := q1.ne, ent := fun a ha => ?_, row := q1.row, at_ := q1.at_, per := fun q hq => (q1.per q hq).trans (hf q).symm, own := q1.own }, ?_, ?_⟩
  · rcases List.mem_cons.1 ((insE_perm e A).mem_iff.1 ha) with rfl | ha
    · exact ⟨0, by omega, hB2⟩
    · exact q1.ent a ha
  · exact ((Only.refl _ _).alloc _).grown h3 (fun b hb => by injection hb with hb; subst hb; exact .inl (.inr (.inl rfl)))
  · rintro b (h5 | h5 | h5 | ⟨a, ha, h5⟩ | h5)
    · exact .inl (.inl h5)
    · exact .inl (.inr (.inl h5))
    · exact .inl (.inr (.inr (.inl h5)))
    · rcases List.mem_cons.1 ((insE_perm e A).mem_iff.1 ha) with rfl | ha
      · exact .inr (by omega)
      · exact .inl (.inr (.inr (.inr (.inl ⟨a, ha, h5⟩))))
    · exact .inl (.inr (.inr (.inr (.inr h5))))
set_option maxHeartbeats 4000000 in
theorem set_any {s : Wh} (i : ByteArray) (d : Int) (h : Sp.Sep W w items) (hk : items[k]? = some (WI g s)) (hG : Good s) (hn : s.l.length < 200) (hd : 0 ≤ d ∧ d < 18446744073709551616) (hi : i.size ≤ 1000) :
    Calls Try.prog 15 #[.pointer (some ⟨g, 0, none⟩), .string i, .int .u64 d] w fun e w' => e = .returned (.bool (find s.l i.toList).isSome) ∧ Sp.Sep W w' (items.set k (WI g (setW s i d))) := by
  have HC := Lib.hid (cancel_any i h hk hG hi)
  have HG := Lib.hid (hG.can i)
  have HK := Lib.hid hk
  have HI := Lib.hid hi
  have HD := Lib.hid hd
  have HN : Hid ((canW s i).l.length < 200) := Lib.hid (Nat.lt_of_le_of_lt (List.length_filter_le _ _) hn)
  have HNK : Hid (∀ a ∈ (canW s i).l, a.key ≠ i.toList) := Lib.hid (fun a ha => (mem_rem.1 ha).2)
  have HSW : Hid (setW s i d = ⟨(canW s i).t, ins ⟨i, d⟩ (canW s i).l⟩) := Lib.hid rfl
  rw [HSW.out]
  obtain ⟨fb, hfb⟩ : ∃ z, (find s.l i.toList).isSome = z := ⟨_, rfl⟩
  rw [hfb] at HC ⊢
  generalize canW s i = s1 at *
  clear h hk hG hn hd hi HSW hfb
  go_enter Try.func15, Try.ntmps15
  go_upto_region 2 with (go_at_call 22; refine HC.out.mono ?_; rintro e3 w3 ⟨rfl, h3⟩; have H3 := Lib.hid h3; clear h3)
  obtain ⟨A, hA, hl, ht, h1⟩ := WI_open H3.out (set_at HK.out _)
  have htt : s1.t.toNat < 18446744073709551616 := by have := HG.out.t; omega
  rw [List.set_set] at h1
  have hk1 := set_at HK.out (wI g s1.t.toNat A A allP)
  generalize s1.t.toNat = t at *
  obtain ⟨ma, mf, v, sl, hM, put⟩ := wI_take h1 hk1
  have hlen : A.length < 200 := by have := HN.out; rw [← hl, List.length_map] at this; exact this
  have hkey : ∀ a ∈ A, a.key ≠ (⟨w3.heap.size, ⟨i, d⟩⟩ : En).key := fun a ha => HNK.out a.t (by rw [← hl]; exact List.mem_map.2 ⟨a, ha, rfl⟩)
  have hblk : ∀ a ∈ A, a.b ≠ w3.heap.size := fun a ha => by
    have := hM.lt a.b (.inr (.inr (.inr (.inl ⟨a, ha, rfl⟩))))
    omega
  obtain ⟨w4, hrun, q1, q2, q3⟩ := hM.add (e := ⟨w3.heap.size, ⟨i, d⟩⟩) hlen rfl hkey HI.out
  have h4 := put _ _ _ _ _ _ _ q1 q2 q3
  rw [List.set_set] at h4
  have hAI := hA.ins (e := ⟨w3.heap.size, ⟨i, d⟩⟩) hkey hblk hlen HD.out HI.out
  have HP := Lib.hid (put_any h4 (set_at HK.out _) hAI htt (e := ⟨w3.heap.size, ⟨i, d⟩⟩) ((insE_perm _ _).mem_iff.2 (List.mem_cons_self ..)) (by simp [outP]))
  rw [List.set_set] at HP
  have HM := Lib.hid (insE_map ⟨w3.heap.size, ⟨i, d⟩⟩ A)
  have HAI := Lib.hid hAI
  have HL := Lib.hid hl
  have HT := Lib.hid ht
  have x1 : (w3.alloc (.cells (enC ⟨w3.heap.size, ⟨i, d⟩⟩ 0) 77)).cell? ⟨g, 1, none⟩ = some (.map (some ma)) := (World.cell?_of_block (w := w3) (Below.heap_alloc _ _ _ hM.blk.lt)).trans ((hM.blk.cell 1).trans (wh1 _ _ _ _))
  change (Instr.mapUpdate 61 (.map (some ma)) (.string i) (.pointer (some ⟨w3.heap.size, 0, none⟩))).run Try.prog (w3.alloc (.cells #[.string i, .int .u64 d, .int .i64 0] 77)) = .ok () w4 at hrun
  change (w3.alloc (.cells #[.string i, .int .u64 d, .int .i64 0] 77)).cell? ⟨g, 1, none⟩ = some (.map (some ma)) at x1
  clear hA hl ht h1 hk1 hM put hlen hkey hblk q1 q2 q3 h4 hAI htt
  go_upto_region 3 with fail
  generalize w3.alloc (.cells #[.string i, .int .u64 d, .int .i64 0] 77) = w5 at *
  generalize w3.heap.size = eb at *
  go_wp2_with (go_at_call 31; refine HP.out.mono ?_; rintro e6 w6 ⟨rfl, h6⟩; have H6 := Lib.hid h6; clear h6)
  go_ret
  refine ⟨rfl, ?_⟩
  have h7 := wI_turn H6.out (set_at HK.out _) (p' := allP) (fun _ _ _ _ hm => hm.congr fun x hx => by cases hb : x.b == eb <;> simp [allP, outP, hb]) (fun a ha => ha)
  rw [List.set_set] at h7
  have h8 := WI_shut h7 (set_at HK.out _) HAI.out
  rw [List.set_set, HM.out, HL.out, ← HT.out] at h8
  exact h8
end
end Go.Proofs.Ytogfpakopckfoaa.Wl
