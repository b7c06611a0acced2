/- Plain: one record of a greater version than all. -/
import Derived.Test.YtckakkocblkcoaaReQ
namespace Go.Proofs.Ytckakkocblkcoaa.Re
open Go.RowKit Go.Lib
open Sp
set_option linter.unusedVariables false
set_option maxRecDepth 100000

theorem filter_ins {q : Rec → Bool} {r : Rec} (h : q r = false) : ∀ l : List Rec, (ins r l).filter q = l.filter q
  | [] => by simp [ins, h]
  | a :: l => by
    unfold ins
    split
    · rw [List.filter_cons, List.filter_cons, filter_ins h l]
    · rw [List.filter_cons_of_neg (by simp [h])]
/-- All but those of one id. -/
def but (x : Key) (l : List Rec) : List Rec := l.filter fun r => decide (r.key ≠ x)
def butS (x : Key) (l : List Ses) : List Ses := l.filter fun s => decide (s.i.toList ≠ x)
theorem but_srt {l : List Rec} (x : Key) (h : Srt l) : Srt (but x l) := List.Pairwise.filter _ h
theorem but_ne {x : Key} {l : List Rec} : ∀ p ∈ but x l, p.key ≠ x := fun p hp => by
  have := (List.mem_filter.1 hp).2
  simpa using this
theorem look_ins {r : Rec} {l : List Rec} (hs : Srt l) (hn : ∀ p ∈ l, p.key ≠ r.key) (x : Key) : look (ins r l) x = if r.key = x then some r else look l x := by
  have h1 := ins_srt hs hn
  split
  · rename_i e
    rw [← e]
    exact srt_look h1 (ins_mem.2 (.inl rfl))
  · rename_i e
    cases h2 : look l x with
    | some p =>
      obtain ⟨h3, h4⟩ := look_mem h2
      rw [← h4]
      exact srt_look h1 (ins_mem.2 (.inr h3))
    | none =>
      unfold look at h2 ⊢
      rw [List.find?_eq_none] at h2 ⊢
      intro p hp
      rcases ins_mem.1 hp with rfl | hp
      · simpa using e
      · exact h2 p hp
theorem look_but {l : List Rec} {x y : Key} (h : y ≠ x) : look (but x l) y = look l y := by
  unfold look but
  rw [List.find?_filter]
  congr 1
  funext r
  by_cases e : r.key = y
  · simp [e, h]
  · simp [e]
/-- A record of a version above all comes last. -/
theorem newest_top {L : List Rec} {t : Rec} (ht : isL t = true) (hv : ∀ r ∈ L, r.v < t.v) : newest (L ++ [t]) = ins t (but t.key (newest L)) := by
  refine (newest_of (ins_srt (but_srt _ (newest_srt L)) but_ne) fun x => ?_).symm
  rw [look_ins (but_srt _ (newest_srt L)) but_ne, best_snoc]
  by_cases e : t.key = x
  · have h1 : one x t = some t := by unfold one; rw [if_pos ⟨ht, e⟩]
    rw [if_pos e, h1]
    cases h2 : best L x with
    | none => rw [join_none]
    | some p =>
      have := hv p (best_mem h2).1
      rw [join_two, if_pos (by omega)]
  · have h1 : one x t = none := by unfold one; rw [if_neg (fun h => e h.2)]
    rw [if_neg e, h1, look_but (fun h => e h.symm), newest_look]
    cases best L x <;> rfl
theorem ses_but (N : List Rec) (now : Int) (x : Key) : sesL (but x N) now = butS x (sesL N now) := by
  unfold sesL but butS
  rw [List.filter_map, List.filter_filter, List.filter_filter]
  congr 1
  apply List.filter_congr
  intro r _
  exact Bool.and_comm _ _
theorem sesL_ins {N : List Rec} {now : Int} {t : Rec} (h : lives now t = false) : sesL (ins t N) now = sesL N now := by
  unfold sesL
  rw [filter_ins h]
def tombR (i : ByteArray) : Rec := ⟨0, 0, 2, 1000000, 0, i, ⟨#[]⟩⟩
def liveR (i : ByteArray) : Rec := ⟨0, 0, 1, 1000000, 18446744073709551615, i, ⟨#[]⟩⟩
def modR (r : Rec) : Rec := { r with v := r.v % 1000000 }
/-- A Tomb takes that session away. -/
theorem ses_tomb {L : List Rec} (i : ByteArray) (now : Int) (hv : ∀ r ∈ L, r.v < 1000000) : sesL (newest (L ++ [tombR i])) now = butS i.toList (sesL (newest L) now) := by
  rw [newest_top rfl hv, sesL_ins rfl]
  exact ses_but _ _ _
/-- A Live one brings that session. -/
theorem ses_live_but {L : List Rec} (i : ByteArray) (now : Int) (hv : ∀ r ∈ L, r.v < 1000000) : butS i.toList (sesL (newest (L ++ [liveR i])) now) = butS i.toList (sesL (newest L) now) := by
  rw [← ses_but, ← ses_but, newest_top rfl hv]
  unfold sesL but
  rw [filter_ins (by simp [liveR, Rec.key])]
  congr 2
  rw [show (liveR i).key = i.toList from rfl, List.filter_filter]
  congr 1
  funext r
  rw [Bool.and_self]
theorem ses_live_at {L : List Rec} (i : ByteArray) (now : Int) (hv : ∀ r ∈ L, r.v < 1000000) {s : Ses} (hs : s ∈ sesL (newest (L ++ [liveR i])) now) (hi : s.i.toList = i.toList) : s.a.toList = [] ∧ s.d = 18446744073709551615 := by
  rw [newest_top rfl hv] at hs
  obtain ⟨r, hr, rfl⟩ := List.mem_map.1 hs
  rcases ins_mem.1 (List.mem_filter.1 hr).1 with rfl | h
  · exact ⟨(by rw [Go.Lib.toList_data] : (⟨#[]⟩ : ByteArray).toList = []), rfl⟩
  · exact absurd hi (but_ne r h)
theorem ses_live_in {L : List Rec} (i : ByteArray) (now : Int) (hv : ∀ r ∈ L, r.v < 1000000) (hn : now < 18446744073709551615) : ∃ s ∈ sesL (newest (L ++ [liveR i])) now, s.i.toList = i.toList := by
  refine ⟨ses (liveR i), List.mem_map_of_mem (List.mem_filter.2 ⟨?_, by simp [lives, liveR, hn]⟩), rfl⟩
  rw [newest_top rfl hv]
  exact ins_mem.2 (.inl rfl)
theorem butS_yes {l : List Ses} {x : Key} {k : Nat} {s : Ses} (h : l[k]? = some s) (hs : s.i.toList ≠ x) : butS x (l.take (k + 1)) = butS x (l.take k) ++ [s] := by
  unfold butS
  rw [take_one h, List.filter_append, List.filter_cons_of_pos (by simpa using hs), List.filter_nil]
theorem butS_no {l : List Ses} {x : Key} {k : Nat} {s : Ses} (h : l[k]? = some s) (hs : s.i.toList = x) : butS x (l.take (k + 1)) = butS x (l.take k) := by
  unfold butS
  rw [take_one h, List.filter_append, List.filter_cons_of_neg (by simpa using hs), List.filter_nil, List.append_nil]
theorem butS_len (x : Key) (l : List Ses) : (butS x l).length ≤ l.length := List.length_filter_le _ _
theorem flat_set (x : Int) : ∀ (L : List Rec) (i : Nat) (r : Rec), L[i]? = some r → (L.flatMap rcC).set (i * 7 + 3) (.int .u64 x) = (L.set i { r with v := x }).flatMap rcC
  | [], i, r, h => by simp at h
  | a :: L, 0, r, h => by
    have e : a = r := by simpa using h
    subst e
    rfl
  | a :: L, i + 1, r, h => by
    have h' : L[i]? = some r := by simpa using h
    rw [List.flatMap_cons, List.set_append_right _ _ (by rw [rcC_len]; omega), rcC_len, show (i + 1) * 7 + 3 - 7 = i * 7 + 3 by omega, flat_set x L i r h']
    rfl
/-- A record's version is written. -/
theorem rows_ver {W w : World} {items : List Sp.Item} {T : TypeId} {g n p k : Nat} {L : List Rec} (h : Sp.Sep W w items) (hk : items[k]? = some (rowS T 7 (.slice (some ⟨g, 0, none⟩) n p) n (L.flatMap rcC))) {i : Nat} {r : Rec} (hi : L[i]? = some r) (x : Int) :
    Sp.Sep W (w.setCell ⟨g, i * 7 + 3, none⟩ (.int .u64 x)) (items.set k (rowS T 7 (.slice (some ⟨g, 0, none⟩) n p) n ((L.set i { r with v := x }).flatMap rcC))) := by
  obtain ⟨G, ⟨ho, hG⟩, _, _, put⟩ := h.at_ k hk
  have h1 := (ho.stored (i * 7 + 3) (.int .u64 x)).1
  rw [flat_set x L i r hi] at h1
  exact put _ G _ ⟨h1, hG⟩ (Grew.refl _ _) ((Only.refl _ w).setCell (p := ⟨g, i * 7 + 3, none⟩) (.inl ((hG g).2 rfl)) _)
/-- The first ones with smaller versions. -/
def mixL (L : List Rec) (i : Nat) : List Rec := (L.take i).map modR ++ L.drop i
theorem mix_len (L : List Rec) (i : Nat) : (mixL L i).length = L.length := by
  unfold mixL
  rw [List.length_append, List.length_map, ← List.length_append, List.take_append_drop]
theorem mix_at {L : List Rec} {i : Nat} {r : Rec} (h : L[i]? = some r) : (mixL L i)[i]? = some r := by
  have := (List.getElem?_eq_some_iff.1 h).1
  unfold mixL
  rw [List.getElem?_append_right (by simp; omega), List.length_map, List.length_take, List.getElem?_drop, show i + (i - min i L.length) = i by omega, h]
theorem mix_next {L : List Rec} {i : Nat} {r : Rec} (h : L[i]? = some r) : (mixL L i).set i (modR r) = mixL L (i + 1) := by
  obtain ⟨h1, h2⟩ := List.getElem?_eq_some_iff.1 h
  unfold mixL
  rw [List.set_append_right _ _ (by simp; omega), List.length_map, List.length_take, show i - min i L.length = 0 by omega, take_one h, List.map_append, List.append_assoc]
  congr 1
  rw [← List.getElem_cons_drop (h := h1), h2]
  rfl
theorem mix_all (L : List Rec) : mixL L L.length = L.map modR := by
  unfold mixL
  rw [List.take_length, List.drop_length, List.append_nil]
theorem mod_lt {L : List Rec} (h : Fine L) : ∀ r ∈ L.map modR, r.v < 1000000 := by
  intro r hr
  obtain ⟨q, hq, rfl⟩ := List.mem_map.1 hr
  show q.v % 1000000 < 1000000
  omega
theorem mod_fine {L : List Rec} (h : Fine L) : Fine (L.map modR) := by
  intro r hr
  obtain ⟨q, hq, rfl⟩ := List.mem_map.1 hr
  have o := h q hq
  have := o.v
  exact ⟨by show _ ∧ _; simp only [modR]; omega, o.d, o.i, o.a⟩
theorem plus_fine {L : List Rec} {t : Rec} (h : Fine L) (ht : ROk t) : Fine (L ++ [t]) := fun r hr => by
  rcases List.mem_append.1 hr with h1 | h1
  · exact h r h1
  · rw [List.mem_singleton.1 h1]
    exact ht
theorem tomb_ok {i : ByteArray} (h : i.size ≤ 20) : ROk (tombR i) := ⟨by simp [tombR], by simp [tombR], by show i.size ≤ _; unfold maxLen; omega, Nat.zero_le _⟩
theorem live_ok {i : ByteArray} (h : i.size ≤ 20) : ROk (liveR i) := ⟨by simp [liveR], by simp [liveR], by show i.size ≤ _; unfold maxLen; omega, Nat.zero_le _⟩
theorem drop_one {α : Type} {l : List α} {k : Nat} {x : α} (h : l[k]? = some x) : l.drop k = x :: l.drop (k + 1) := by
  obtain ⟨h1, h2⟩ := List.getElem?_eq_some_iff.1 h
  rw [← h2, List.getElem_cons_drop]
end Go.Proofs.Ytckakkocblkcoaa.Re
