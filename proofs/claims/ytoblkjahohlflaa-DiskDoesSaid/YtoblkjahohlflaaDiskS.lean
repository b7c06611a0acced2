/- The plain state of a disk (what its sectors hold, which writes are pending, its limit), what each call makes of it, and what it means that a disk of that state lies in memory. -/
import Derived.Test.YtoblkjahohlflaaDiskM
import Derived.Deep.WholeRow
namespace Go.Proofs.Ytoblkjahohlflaa
open Go.RowKit Go.MapKept
set_option linter.unusedVariables false

/-! ### Bytes and cells -/
def zeroS : ByteArray := ⟨Array.replicate 128 0⟩
def secL (s : ByteArray) : List Value := s.data.toList.map fun b => Value.int .u8 ((b.toNat : Nat) : Int)
def wrL (p : Int × ByteArray) : List Value := Value.int .i64 p.1 :: secL p.2
def secA (s : ByteArray) : Array Value := (secL s).toArray
def wrA (p : Int × ByteArray) : Array Value := (wrL p).toArray
abbrev secV (s : ByteArray) : Value := .agg (secA s)
/-- The first n bytes of a, the others of b. -/
def mix (n : Nat) (a b : ByteArray) : ByteArray := ⟨(a.data.toList.take n ++ b.data.toList.drop n).toArray⟩

theorem len_data (s : ByteArray) : s.data.toList.length = s.size := by simp
theorem secL_len (s : ByteArray) : (secL s).length = s.size := by simp [secL]
theorem wrL_len (p : Int × ByteArray) : (wrL p).length = p.2.size + 1 := by simp [wrL, secL_len]
theorem secL_one (s : ByteArray) : ∀ v ∈ secL s, v.oneCell' = true := by
  intro v hv
  obtain ⟨b, _, rfl⟩ := List.mem_map.1 hv
  rfl
theorem wrL_one (p : Int × ByteArray) : ∀ v ∈ wrL p, v.oneCell' = true := by
  intro v hv
  rcases List.mem_cons.1 hv with rfl | hv
  · rfl
  · exact secL_one _ v hv
theorem secA_size (s : ByteArray) : (secA s).size = s.size := by simp [secA, secL_len]
theorem wrA_size (p : Int × ByteArray) : (wrA p).size = p.2.size + 1 := by simp [wrA, wrL_len]
theorem secA_one (s : ByteArray) : (secA s).all (·.oneCell') = true := all_oneCell_toArray (secL_one s)
theorem wrA_one (p : Int × ByteArray) : (wrA p).all (·.oneCell') = true := all_oneCell_toArray (wrL_one p)
theorem secL_mix (n : Nat) (a b : ByteArray) : secL (mix n a b) = (secL a).take n ++ (secL b).drop n := by
  simp [secL, mix, List.map_take, List.map_drop]
theorem mix_size (n : Nat) (a b : ByteArray) (ha : a.size = 128) (hb : b.size = 128) : (mix n a b).size = 128 := by
  have h1 := len_data a
  have h2 := len_data b
  have : (mix n a b).size = (a.data.toList.take n ++ b.data.toList.drop n).length := rfl
  rw [this, List.length_append, List.length_take, List.length_drop]
  omega
theorem mix_all (a b : ByteArray) (ha : a.size = 128) (hb : b.size = 128) : mix 128 a b = a := by
  have h1 := len_data a
  have h2 := len_data b
  unfold mix
  rw [List.take_of_length_le (by omega), List.drop_eq_nil_of_le (by omega), List.append_nil]
theorem mix_none (a b : ByteArray) : mix 0 a b = b := by
  unfold mix
  rw [List.take_zero, List.drop_zero, List.nil_append]
theorem zeroS_size : zeroS.size = 128 := Array.size_replicate

theorem zero_sec : (∀ w, (zeroValue 61).run Try.prog w = .ok (secV zeroS) w) ∧ (Try.prog.info? 61).map (·.size) = some 128 := by
  have h : (Try.prog.info? 61).map (fun i => (i.zero, i.size)) = some (some (secV zeroS), 128) := by kernel_rfl
  exact zero_of_info h
theorem zero_wr : (∀ w, (zeroValue 64).run Try.prog w = .ok (.agg (wrA (0, zeroS))) w) ∧ (Try.prog.info? 64).map (·.size) = some 129 := by
  have h : (Try.prog.info? 64).map (fun i => (i.zero, i.size)) = some (some (.agg (wrA (0, zeroS))), 129) := by kernel_rfl
  exact zero_of_info h

/-! ### The plain state -/
structure St where
  set : Bool
  left : Int
  size : Int
  held : Int → ByteArray
  pend : List (Int × ByteArray)

/-- What the writes make of a sector that holds x. -/
def over (l : List (Int × ByteArray)) (i : Int) (x : ByteArray) : ByteArray := l.foldl (fun a p => if p.1 = i then p.2 else a) x
theorem over_nil (i : Int) (x : ByteArray) : over [] i x = x := rfl
theorem over_snoc (l : List (Int × ByteArray)) (p : Int × ByteArray) (i : Int) (x : ByteArray) : over (l ++ [p]) i x = if p.1 = i then p.2 else over l i x := by
  simp [over, List.foldl_append]

/-- What Read tells. -/
def St.cur (s : St) (i : Int) : ByteArray := over s.pend i (s.held i)

def do1 (h : Int → ByteArray) (p : Int × ByteArray) (n : Nat) : Int → ByteArray := fun j => if j = p.1 then mix n p.2 (h j) else h j

/-- What a crash makes of what the sectors hold, by its first k writes. -/
def crashTo (keep : Nat → Bool) (torn : Int) (n : Nat) (l : List (Int × ByteArray)) (h : Int → ByteArray) : Nat → Int → ByteArray
  | 0 => h
  | k + 1 => match l[k]? with
    | none => crashTo keep torn n l h k
    | some p => if keep k then do1 (crashTo keep torn n l h k) p 128 else if (k : Int) = torn then do1 (crashTo keep torn n l h k) p n else crashTo keep torn n l h k

def St.new (n : Int) : St := ⟨false, 0, n, fun _ => zeroS, []⟩
def St.limit (s : St) (n : Int) : St := { s with set := true, left := n }
def St.use (s : St) : St := { s with left := if s.set then s.left - 1 else s.left }
def St.write (s : St) (i : Int) (x : ByteArray) : St := { s.use with pend := s.pend ++ [(i, x)] }
def St.flush (s : St) : St := { s.use with pend := [], held := crashTo (fun _ => true) 0 0 s.pend s.held s.pend.length }
def St.crash (s : St) (keep : Nat → Bool) (torn : Int) (n : Nat) : St := { s with set := false, left := 0, pend := [], held := crashTo keep torn n s.pend s.held s.pend.length }
def St.did (s : St) (h : Int → ByteArray) : St := { s with held := h }
def St.dead (s : St) : Prop := s.set = true ∧ s.left < 1
def St.has (s : St) (i : Int) : Prop := 0 ≤ i ∧ i < s.size

structure St.Good (s : St) : Prop where
  size1 : 1 ≤ s.size
  size2 : s.size ≤ 4096
  left1 : -9223372036854775808 ≤ s.left
  left2 : s.left ≤ 9223372036854775807
  held : ∀ i, (s.held i).size = 128
  pend : ∀ p ∈ s.pend, p.2.size = 128 ∧ 0 ≤ p.1 ∧ p.1 < s.size

theorem do1_size {h : Int → ByteArray} {p : Int × ByteArray} {n : Nat} (hh : ∀ i, (h i).size = 128) (hp : p.2.size = 128) : ∀ i, (do1 h p n i).size = 128 := by
  intro i
  unfold do1
  split
  · exact mix_size n _ _ hp (hh i)
  · exact hh i
theorem crashTo_size {keep : Nat → Bool} {torn : Int} {n : Nat} {l : List (Int × ByteArray)} {h : Int → ByteArray} (hh : ∀ i, (h i).size = 128) (hl : ∀ p ∈ l, p.2.size = 128) : ∀ k i, (crashTo keep torn n l h k i).size = 128
  | 0, i => hh i
  | k + 1, i => by
    have ih := crashTo_size (keep := keep) (torn := torn) (n := n) hh hl k
    cases hp : l[k]? with
    | none => simp only [crashTo, hp]; exact ih i
    | some p =>
      have h128 := hl p (List.mem_of_getElem? hp)
      simp only [crashTo, hp]
      split
      · exact do1_size ih h128 i
      · split
        · exact do1_size ih h128 i
        · exact ih i

theorem St.Good.new {n : Int} (h1 : 1 ≤ n) (h2 : n ≤ 4096) : (St.new n).Good := ⟨h1, h2, by simp [St.new], by simp [St.new], fun _ => zeroS_size, by simp [St.new]⟩
theorem St.Good.limit {s : St} (h : s.Good) {n : Int} (h1 : -9223372036854775808 ≤ n) (h2 : n ≤ 9223372036854775807) : (s.limit n).Good := ⟨h.size1, h.size2, h1, h2, h.held, h.pend⟩
theorem St.Good.use {s : St} (h : s.Good) (hd : ¬ s.dead) : s.use.Good := by
  have h1 := h.left1
  have h2 := h.left2
  refine ⟨h.size1, h.size2, ?_, ?_, h.held, h.pend⟩
  all_goals
    unfold St.dead at hd
    simp only [St.use]
    split
    · rename_i e
      have : ¬ s.left < 1 := fun hl => hd ⟨e, hl⟩
      omega
    · omega
theorem St.Good.write {s : St} (h : s.Good) (hd : ¬ s.dead) {i : Int} {x : ByteArray} (hi : s.has i) (hx : x.size = 128) : (s.write i x).Good := by
  have hu := h.use hd
  refine ⟨hu.size1, hu.size2, hu.left1, hu.left2, hu.held, fun p hp => ?_⟩
  rcases List.mem_append.1 hp with hp | hp
  · exact h.pend p hp
  · rcases List.mem_singleton.1 hp with rfl
    exact ⟨hx, hi.1, hi.2⟩
theorem St.Good.did {s : St} (h : s.Good) {g : Int → ByteArray} (hg : ∀ i, (g i).size = 128) : (s.did g).Good := ⟨h.size1, h.size2, h.left1, h.left2, hg, h.pend⟩
theorem St.Good.flush {s : St} (h : s.Good) (hd : ¬ s.dead) : s.flush.Good := by
  have hu := h.use hd
  exact ⟨hu.size1, hu.size2, hu.left1, hu.left2, crashTo_size h.held (fun p hp => (h.pend p hp).1) _, by simp [St.flush]⟩
theorem St.Good.crash {s : St} (h : s.Good) (keep : Nat → Bool) (torn : Int) (n : Nat) : (s.crash keep torn n).Good :=
  ⟨h.size1, h.size2, by simp [St.crash], by simp [St.crash], crashTo_size h.held (fun p hp => (h.pend p hp).1) _, by simp [St.crash]⟩

/-- What the map of last places says. -/
def LastOK (f : Int → Option Value) (l : List (Int × ByteArray)) : Prop :=
  ∀ i, (f i = none ∧ ∀ x, over l i x = x) ∨ ∃ (k : Nat) (y : ByteArray), f i = some (.int .i64 (k : Int)) ∧ l[k]? = some (i, y) ∧ ∀ x, over l i x = y
theorem LastOK.nil : LastOK (fun _ => none) [] := fun i => .inl ⟨rfl, fun _ => rfl⟩
theorem LastOK.snoc {f : Int → Option Value} {l : List (Int × ByteArray)} (h : LastOK f l) (j : Int) (y : ByteArray) :
    LastOK (fun i => if i = j then some (.int .i64 (l.length : Int)) else f i) (l ++ [(j, y)]) := fun i => by
  by_cases e : i = j
  · subst e
    exact .inr ⟨l.length, y, by simp, by simp, fun x => by rw [over_snoc, if_pos rfl]⟩
  · have hov : ∀ x, over (l ++ [(j, y)]) i x = over l i x := fun x => by rw [over_snoc, if_neg (fun h => e h.symm)]
    rcases h i with ⟨h1, h2⟩ | ⟨k, z, h1, h2, h3⟩
    · exact .inl ⟨by simp [e, h1], fun x => (hov x).trans (h2 x)⟩
    · exact .inr ⟨k, z, by simp [e, h1], by rw [List.getElem?_append_left (List.getElem?_eq_some_iff.1 h2).1]; exact h2, fun x => (hov x).trans (h3 x)⟩

/-- What the map of held sectors says. -/
def HeldOK (f : Int → Option Value) (h : Int → ByteArray) : Prop := ∀ i, (f i).getD (secV zeroS) = secV (h i)
theorem HeldOK.new : HeldOK (fun _ => none) (fun _ => zeroS) := fun i => rfl
theorem HeldOK.put {f : Int → Option Value} {h : Int → ByteArray} (hf : HeldOK f h) (j : Int) (x : ByteArray) : HeldOK (fun i => if i = j then some (secV x) else f i) (fun i => if i = j then x else h i) := fun i => by
  by_cases e : i = j
  · simp [e]
  · simp only [if_neg e]; exact hf i

/-! ### A disk in memory -/
structure DiskIn (w : World) (d h l : Nat) (v : Value) (F : Nat → Prop) (s : St) : Prop where
  fd : F d
  fh : F h
  fl : F l
  fv : ∀ g, v.ownBlock = some g → F g
  hl : h ≠ l
  blk : Blk w d 46 #[.bool s.set, .int .i64 s.left, .int .i64 s.size, .map (some h), v, .map (some l)]
  held : ∃ f, MapIs w h f ∧ HeldOK f s.held
  last : ∃ f, MapIs w l f ∧ LastOK f s.pend
  own : w.ownsRow 0 64 129 v s.pend.length (s.pend.flatMap wrL)
  lt : ∀ b, F b → b < w.heap.size
  good : s.Good

/-- A disk of state s lies in memory: its struct in block d, all of it in blocks of F. -/
def DiskAt (w : World) (d : Nat) (F : Nat → Prop) (s : St) : Prop := ∃ h l v, DiskIn w d h l v F s

section
variable {w w' : World} {d h l : Nat} {v : Value} {F : Nat → Prop} {s : St}
theorem DiskIn.dh (D : DiskIn w d h l v F s) : h ≠ d := let ⟨_, hm, _⟩ := D.held; hm.ne_blk D.blk
theorem DiskIn.dl (D : DiskIn w d h l v F s) : l ≠ d := let ⟨_, hm, _⟩ := D.last; hm.ne_blk D.blk
theorem own_ne {e t : TypeId} {base size n g : Nat} {cs : Array Value} {xs : List Value} (ho : w.ownsRow base e size v n xs) (hg : Blk w g t cs) (hne : e ≠ t) : v.ownBlock ≠ some g := by
  rcases ho.2 with ⟨rfl, _⟩ | ⟨g', cap, cur, rfl, _, hh, _⟩
  · simp [Value.ownBlock]
  · intro he
    have : g' = g := by simpa [Value.ownBlock] using he
    subst this
    exact Blk.ne_ (t := e) hh hg hne rfl
theorem own_ne_map {e : TypeId} {base size n g : Nat} {f : Int → Option Value} {xs : List Value} (ho : w.ownsRow base e size v n xs) (hg : MapIs w g f) : v.ownBlock ≠ some g := by
  rcases ho.2 with ⟨rfl, _⟩ | ⟨g', cap, cur, rfl, _, hh, _⟩
  · simp [Value.ownBlock]
  · intro he
    have : g' = g := by simpa [Value.ownBlock] using he
    subst this
    exact hg.ne_blk hh rfl
theorem DiskIn.dv (D : DiskIn w d h l v F s) : v.ownBlock ≠ some d := own_ne D.own D.blk (by decide)
theorem DiskIn.hv (D : DiskIn w d h l v F s) : v.ownBlock ≠ some h := let ⟨_, hm, _⟩ := D.held; own_ne_map D.own hm
theorem DiskIn.lv (D : DiskIn w d h l v F s) : v.ownBlock ≠ some l := let ⟨_, hm, _⟩ := D.last; own_ne_map D.own hm

theorem own_same {e : TypeId} {base size n : Nat} {xs : List Value} (ho : w.ownsRow base e size v n xs) (hs : ∀ g, v.ownBlock = some g → w'.heap[g]? = w.heap[g]?) : w'.ownsRow base e size v n xs := by
  refine ⟨ho.1, ?_⟩
  rcases ho.2 with hn | ⟨g, cap, cur, rfl, hb, hgg, rest⟩
  · exact .inl hn
  · exact .inr ⟨g, cap, cur, rfl, hb, by rw [hs g rfl]; exact hgg, rest⟩

/-- What stands outside is not asked. -/
theorem DiskIn.far {G : Nat → Prop} (D : DiskIn w d h l v F s) (ho : Only G w w') (hG : ∀ i, F i → ¬ G i) : DiskIn w' d h l v F s :=
  have hs : ∀ i, F i → w'.heap[i]? = w.heap[i]? := fun i hi => ho.block i (D.lt i hi) (hG i hi)
  ⟨D.fd, D.fh, D.fl, D.fv, D.hl, (hs d D.fd).trans D.blk, let ⟨f, h1, h2⟩ := D.held; ⟨f, h1.same (hs h D.fh), h2⟩, let ⟨f, h1, h2⟩ := D.last; ⟨f, h1.same (hs l D.fl), h2⟩,
    own_same D.own (fun g hg => hs g (D.fv g hg)), fun b hb => Nat.lt_of_lt_of_le (D.lt b hb) ho.size, D.good⟩
theorem DiskAt.far {G : Nat → Prop} (D : DiskAt w d F s) (ho : Only G w w') (hG : ∀ i, F i → ¬ G i) : DiskAt w' d F s := let ⟨h, l, v, D⟩ := D; ⟨h, l, v, D.far ho hG⟩
theorem DiskIn.later (D : DiskIn w d h l v F s) (hb : Below w.heap.size w w') : DiskIn w' d h l v F s := D.far (G := fun _ => False) ((Only.refl _ w).of_below hb) (fun _ _ h => h)
theorem DiskAt.later (D : DiskAt w d F s) (hb : Below w.heap.size w w') : DiskAt w' d F s := let ⟨h, l, v, D⟩ := D; ⟨h, l, v, D.later hb⟩
theorem DiskAt.drew (D : DiskAt w d F s) : DiskAt w.drew d F s := D.later ((Below.refl _ _).drew)
theorem DiskAt.alloc (D : DiskAt w d F s) (o : Obj) : DiskAt (w.alloc o) d F s := D.later ((Below.refl _ _).alloc (Nat.le_refl _) o)
theorem DiskAt.good (D : DiskAt w d F s) : s.Good := let ⟨_, _, _, D⟩ := D; D.good
theorem DiskAt.fd (D : DiskAt w d F s) : F d := let ⟨_, _, _, D⟩ := D; D.fd
theorem DiskAt.lt (D : DiskAt w d F s) : ∀ b, F b → b < w.heap.size := let ⟨_, _, _, D⟩ := D; D.lt
end

end Go.Proofs.Ytoblkjahohlflaa
