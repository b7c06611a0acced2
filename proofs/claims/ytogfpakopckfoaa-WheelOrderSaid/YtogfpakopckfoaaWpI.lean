/- The program's Cancel and Set. -/
import Derived.Test.YtogfpakopckfoaaWpH
namespace Go.Proofs.Ytogfpakopckfoaa.Wl
open Go.RowKit Go.Lib Go.Maps
open Sp
set_option linter.unusedVariables false
set_option maxRecDepth 100000

/-- 'delete(m, x)' whose run is known. -/
theorem wp_del {ops : Array Oper} {rest : List Oper} {o : Oper} {a : Act} {w : World} {Q : Exit → Act → World → Prop} (t k : TypeId) (hgd : o.guard = none) (s x : Operand)
    (ho : o.op = .call { callee := .builtin .delete, args := #[s, x], argTypes := #[t, k] }) (u1 u2 : Value) (hs : a.eval s = u1) (hx : a.eval x = u2) {v' : Value} {W5 : World}
    (hrun : ∀ ty, (Builtin.delete_ #[t, k] ty #[u1, u2]).run Try.prog w = .ok v' W5) (h : wpList Try.prog ops Q rest (a.put o.dst v') W5) : wpList Try.prog ops Q (o :: rest) a w := by
  refine wpList_plain hgd fun K hK => ?_
  unfold Oper.wp execOp
  simp only [ho, resolve, invoke, builtin, Sem.run_bind, Sem.run_pure, Result.andThen_ok, List.map_toArray, List.map_cons, List.map_nil, hs, hx, hrun]
  exact hK _ _ h
section
variable {W w w' : World} {items : List Sp.Item} {k g t ma mf : Nat} {v : Nat → Value} {sl : Nat → List En} {L A : List En} {p : En → Bool} {e : En}
theorem MemW.congr (h : MemW w g ma mf v sl t L A p) {p' : En → Bool} (hp : ∀ x ∈ A, p' x = p x) : MemW w g ma mf v sl t L A p' := by
  have hf : ∀ k, A.filter (slP t p' k) = A.filter (slP t p k) := fun k => List.filter_congr fun x hx => by simp only [slP, hp x hx]
  exact { blk := h.blk, am := h.am, fm := by rw [hf]; exact h.fm, ne := h.ne, ent := h.ent, row := h.row, at_ := h.at_, per := fun k hk => by rw [hf]; exact h.per k hk, own := h.own }
/-- What stands nowhere is forgotten. -/
theorem MemW.forget (h : MemW w g ma mf v sl t L A p) : MemW w g ma mf v sl t L (A.filter p) allP := by
  have hf : ∀ k, (A.filter p).filter (slP t allP k) = A.filter (slP t p k) := fun k => by
    rw [List.filter_filter]
    exact List.filter_congr fun x _ => by simp only [slP, allP, Bool.true_and, Bool.and_comm]
  exact { blk := h.blk, am := h.am, fm := by rw [hf]; exact h.fm, ne := h.ne, ent := fun a ha => h.ent a (List.mem_filter.1 ha).1, row := h.row, at_ := h.at_, per := fun k hk => by rw [hf]; exact h.per k hk, own := h.own }
theorem wI_turn (h : Sp.Sep W w items) (hk : items[k]? = some (wI g t L A p)) {L' A' : List En} {p' : En → Bool} (hM : ∀ ma mf v sl, MemW w g ma mf v sl t L A p → MemW w g ma mf v sl t L' A' p') (hf : ∀ a ∈ A', a ∈ A) : Sp.Sep W w (items.set k (wI g t L' A' p')) := by
  obtain ⟨ma, mf, v, sl, h1, put⟩ := wI_take h hk
  refine put w v sl t L' A' p' (hM _ _ _ _ h1) (Only.refl _ _) ?_
  rintro b (h1 | h1 | h1 | ⟨e, he, h1⟩ | h1)
  · exact .inl (.inl h1)
  · exact .inl (.inr (.inl h1))
  · exact .inl (.inr (.inr (.inl h1)))
  · exact .inl (.inr (.inr (.inr (.inl ⟨e, hf e he, h1⟩))))
  · exact .inl (.inr (.inr (.inr (.inr h1))))
abbrev outP (e : En) : En → Bool := fun x => allP x && !(x.b == e.b)
theorem out_perm (hA : AOk A) (he : e ∈ A) : A.Perm (e :: A.filter (outP e)) := by
  have := filter_put (p := outP e) (q := fun _ => true) hA.b he (by simp) rfl fun x hx hne => by
    have : (x.b == e.b) = false := by simpa using fun e1 => hne (nodup_inj hA.b hx he e1)
    simp [this, allP]
  rw [List.filter_eq_self.2 (fun _ _ => rfl)] at this
  exact this
theorem out_key (hA : AOk A) (he : e ∈ A) : ∀ a ∈ A.filter (outP e), a.key ≠ e.key := fun a ha e1 => by
  obtain ⟨h1, h2⟩ := List.mem_filter.1 ha
  have := nodup_inj hA.k h1 he e1
  subst this
  simp at h2
theorem out_map (hA : AOk A) (he : e ∈ A) : (A.filter (outP e)).map En.t = rem (A.map En.t) e.key := by
  unfold rem
  rw [List.filter_map]
  congr 1
  refine List.filter_congr fun x hx => ?_
  by_cases e1 : x.b = e.b
  · have := nodup_inj hA.b hx he e1
    subst this
    simp [outP, En.key]
  · have : x.t.key ≠ e.key := fun e2 => e1 (by rw [nodup_inj hA.k hx he e2])
    simp [outP, allP, e1, this]
set_option maxHeartbeats 4000000 in
theorem cancel_any {s : Wh} (i : ByteArray) (h : Sp.Sep W w items) (hk : items[k]? = some (WI g s)) (hG : Good s) (hi : i.size ≤ 1000) :
    Calls Try.prog 22 #[.pointer (some ⟨g, 0, none⟩), .string i] w fun e w' => e = .returned (.bool (find s.l i.toList).isSome) ∧ Sp.Sep W w' (items.set k (WI g (canW s i))) := by
  obtain ⟨A, hA, hl, ht, h1⟩ := WI_open h hk
  have hk1 := set_at hk (wI g s.t.toNat A A allP)
  have htt : s.t.toNat < 18446744073709551616 := by have := hG.t; omega
  generalize s.t.toNat = t at *
  obtain ⟨st, sl0⟩ := s
  simp only at hl ht
  subst hl ht
  obtain ⟨ma, mf, v, sl, hM, put⟩ := wI_take h1 hk1
  have x1 : w.cell? ⟨g, 1, none⟩ = some (.map (some ma)) := (hM.blk.cell 1).trans (wh1 _ _ _ _)
  simp only [canW]
  rcases look_en hM.am hi hA.k with ⟨e, he, hek, hrun⟩ | ⟨hn, hrun⟩
  · rw [find_map hA.k he hek, ← hek, ← out_map hA he]
    have hes : e.t.i = i := by
      have : e.t.i.toList = i.toList := hek
      rw [Lib.toList_data, Lib.toList_data] at this
      have h9 : e.t.i.data = i.data := Array.toList_inj.1 this
      cases hh : e.t.i; cases i; simp_all
    have hdel : ∃ w2, (∀ ty, (Builtin.delete_ #[61, 9] ty #[.map (some ma), .string i]).run Try.prog w = .ok (.tuple #[]) w2) ∧ Sp.Sep W w2 (items.set k (wI g t (A.filter (outP e)) A allP)) := by
      obtain ⟨w2, q1, q2, q3⟩ := hM.alldel hA he (out_perm hA he) (out_key hA he) 0
      rw [hes] at q1
      refine ⟨w2, fun ty => q1, ?_⟩
      have := put _ _ _ _ _ _ _ q2 q3 (fun b hb => .inl hb)
      rw [List.set_set] at this
      exact this
    obtain ⟨w2, hdr, h2⟩ := hdel
    have HT := Lib.hid (take_any h2 (set_at hk _) hA htt he rfl)
    rw [List.set_set] at HT
    have HK := Lib.hid hk
    have HA := Lib.hid hA
    have HE := Lib.hid he
    clear h hk hA h1 hk1 hM put hek hes h2 hG htt
    go_enter Try.func22, Try.ntmps22
    go_wp2_with (first | (refine wp_del 61 9 rfl (.tmp 20) (.tmp 21) rfl (.map (some ma)) (.string i) rfl rfl hdr ?_; clear x1 hrun) | (go_at_call 36; refine HT.out.mono ?_; rintro e3 w3 ⟨rfl, h3⟩; have H3 := Lib.hid h3; clear h3))
    go_ret
    refine ⟨rfl, ?_⟩
    have h4 := wI_turn H3.out (set_at HK.out _) (fun _ _ _ _ hm => hm.forget) (fun a ha => (List.mem_filter.1 ha).1)
    rw [List.set_set] at h4
    have h5 := WI_shut h4 (set_at HK.out _) (HA.out.sub List.filter_sublist)
    rw [List.set_set] at h5
    exact h5
  · rw [find_no hn, rem_none (find_no hn)]
    have h5 := WI_shut h1 hk1 hA
    rw [List.set_set] at h5
    have H5 := Lib.hid h5
    clear h hk hA h1 hk1 hM put hn h5 hG htt
    go_enter Try.func22, Try.ntmps22
    go_wp2_with fail
    go_ret
    exact ⟨rfl, H5.out⟩
end
end Go.Proofs.Ytogfpakopckfoaa.Wl
