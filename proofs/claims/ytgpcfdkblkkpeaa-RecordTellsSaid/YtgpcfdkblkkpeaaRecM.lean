/- The plain side of package record: a record, whether it may be, its sector as bytes, the record of bytes; that a sector tells its record, and what a torn one, or one with another byte, tells. No program is spoken of. -/
import Derived.Test.YtgpcfdkblkkpeaaRecW
import Derived.Test.YtgpcfdkblkkpeaaRecC
import Derived.Test.YtgpcfdkblkkpeaaRecK
namespace Go.Proofs.Ytgpcfdkblkkpeaa
open Go.RowKit Go.Lib Wd Cr Ck
set_option linter.unusedVariables false

/-- A record: LSN, Epoch, Kind, Ver, Deadline, ID, Value. -/
structure Rec where
  l : Int
  e : Int
  k : Int
  v : Int
  d : Int
  i : List UInt8
  a : List UInt8

/-- Its numbers are what their kinds can hold. -/
structure Fits (r : Rec) : Prop where
  l0 : 0 ≤ r.l
  l1 : r.l < 18446744073709551616
  e0 : 0 ≤ r.e
  e1 : r.e < 4294967296
  v0 : 0 ≤ r.v
  v1 : r.v < 18446744073709551616
  d0 : 0 ≤ r.d
  d1 : r.d < 18446744073709551616

/-- May it be? -/
def okR (r : Rec) : Bool := decide (r.l ≠ 0 ∧ ((r.k = 1 ∧ idB r.i = true ∧ r.a.length ≤ 64) ∨ (r.k = 2 ∧ idB r.i = true ∧ r.a = [] ∧ r.d = 0) ∨ (r.k = 3 ∧ r.i = [] ∧ r.a = [] ∧ r.v = 0 ∧ r.d < 16)))

theorem okR_iff (r : Rec) : okR r = true ↔ r.l ≠ 0 ∧ ((r.k = 1 ∧ idB r.i = true ∧ r.a.length ≤ 64) ∨ (r.k = 2 ∧ idB r.i = true ∧ r.a = [] ∧ r.d = 0) ∨ (r.k = 3 ∧ r.i = [] ∧ r.a = [] ∧ r.v = 0 ∧ r.d < 16)) := by
  unfold okR; rw [decide_eq_true_iff]

theorem idB_le {l : List UInt8} (h : idB l = true) : l.length ≤ 16 := by
  unfold idB at h
  rw [Bool.and_eq_true, decide_eq_true_iff] at h
  omega

theorem okR_i {r : Rec} (h : okR r = true) : r.i.length ≤ 16 := by
  rcases ((okR_iff r).1 h).2 with h | h | h
  · exact idB_le h.2.1
  · exact idB_le h.2.1
  · rw [h.2.1]; simp
theorem okR_a {r : Rec} (h : okR r = true) : r.a.length ≤ 64 := by
  rcases ((okR_iff r).1 h).2 with h | h | h
  · exact h.2.2
  · rw [h.2.2.1]; simp
  · rw [h.2.2.1]; simp
theorem okR_k {r : Rec} (h : okR r = true) : 1 ≤ r.k ∧ r.k ≤ 3 := by
  rcases ((okR_iff r).1 h).2 with h | h | h <;> omega
theorem okR_l {r : Rec} (h : okR r = true) : r.l ≠ 0 := ((okR_iff r).1 h).1

/-- LSN and Epoch, as bytes. -/
def stampL (r : Rec) : List UInt8 := putL r.l.toNat 8 ++ putL r.e.toNat 4
/-- What stands ahead of the zeros. -/
def fieldsL (r : Rec) : List UInt8 := stampL r ++ putL r.k.toNat 1 ++ putL r.i.length 1 ++ putL r.a.length 1 ++ putL r.v.toNat 8 ++ putL r.d.toNat 8 ++ r.i ++ r.a
def bodyL (r : Rec) : List UInt8 := fieldsL r ++ List.replicate (112 - (fieldsL r).length) 0
/-- Its sector. -/
def secL (r : Rec) : List UInt8 := bodyL r ++ putL (Crc.more 0 (bodyL r)) 4 ++ stampL r

theorem stampL_len (r : Rec) : (stampL r).length = 12 := by simp [stampL, putL_length]
theorem fieldsL_len (r : Rec) : (fieldsL r).length = 31 + r.i.length + r.a.length := by
  simp [fieldsL, stampL_len, putL_length]; omega
theorem bodyL_len {r : Rec} (h : okR r = true) : (bodyL r).length = 112 := by
  have h1 := okR_i h
  have h2 := okR_a h
  rw [bodyL, List.length_append, List.length_replicate, fieldsL_len]; omega
theorem secL_len {r : Rec} (h : okR r = true) : (secL r).length = 128 := by
  rw [secL, List.length_append, List.length_append, bodyL_len h, putL_length, stampL_len]

/-- The record of bytes, field by field, whatever they are. -/
def cutR (s : List UInt8) : Rec :=
  { l := (getN (s.take 8) : Nat), e := (getN ((s.drop 8).take 4) : Nat), k := (getN ((s.drop 12).take 1) : Nat), v := (getN ((s.drop 15).take 8) : Nat), d := (getN ((s.drop 23).take 8) : Nat),
    i := (s.drop 31).take (getN ((s.drop 13).take 1)), a := (s.drop (31 + (getN ((s.drop 13).take 1)))).take (getN ((s.drop 14).take 1)) }

theorem getN_lt_of (l : List UInt8) (k n : Nat) (h : l.length ≤ k) (hk : k ≤ 8) (hn : 256 ^ k = n) : getN l < n := by
  unfold getN
  rw [← hn]
  exact leN_lt_of (by rw [List.length_take]; omega)

theorem cutR_fits (s : List UInt8) : Fits (cutR s) := by
  have h1 := getN_lt (s.take 8)
  have h2 := getN_lt_of ((s.drop 8).take 4) 4 4294967296 (by rw [List.length_take]; omega) (by omega) (by decide)
  have h3 := getN_lt ((s.drop 15).take 8)
  have h4 := getN_lt ((s.drop 23).take 8)
  constructor <;> simp only [cutR] <;> omega

theorem getN_putL (n k : Nat) (h : k ≤ 8) : getN (putL n k) = n % 256 ^ k := by
  unfold getN
  rw [List.take_of_length_le (by rw [putL_length]; exact h), leN_putL]

theorem take_at (p q r : List UInt8) (n m : Nat) (hp : p.length = n) (hq : q.length = m) : ((p ++ (q ++ r)).drop n).take m = q := by
  rw [List.drop_append_of_le_length (by omega), List.drop_of_length_le (by omega), List.nil_append, List.take_append_of_le_length (by omega), List.take_of_length_le (by omega)]

/-- A sector's fields stand where they should. -/
theorem cutR_secL {r : Rec} (hf : Fits r) (h : okR r = true) : cutR (secL r) = r := by
  have hi := okR_i h
  have ha := okR_a h
  have hk := okR_k h
  obtain ⟨l0, l1, e0, e1, v0, v1, d0, d1⟩ := hf
  obtain ⟨Z, hZ⟩ : ∃ Z, Z = List.replicate (112 - (fieldsL r).length) 0 ++ (putL (Crc.more 0 (bodyL r)) 4 ++ stampL r) := ⟨_, rfl⟩
  have e : secL r = putL r.l.toNat 8 ++ (putL r.e.toNat 4 ++ (putL r.k.toNat 1 ++ (putL r.i.length 1 ++ (putL r.a.length 1 ++ (putL r.v.toNat 8 ++ (putL r.d.toNat 8 ++ (r.i ++ (r.a ++ Z)))))))) := by
    have e0 : secL r = fieldsL r ++ Z := by
      rw [secL, hZ, List.append_assoc]
      generalize putL (Crc.more 0 (bodyL r)) 4 ++ stampL r = T
      rw [bodyL, List.append_assoc]
    rw [e0]
    clear e0 hZ
    simp only [fieldsL, stampL, List.append_assoc]
  have f0 : ((secL r).take 8) = putL r.l.toNat 8 := by
    have := take_at [] (putL r.l.toNat 8) (putL r.e.toNat 4 ++ (putL r.k.toNat 1 ++ (putL r.i.length 1 ++ (putL r.a.length 1 ++ (putL r.v.toNat 8 ++ (putL r.d.toNat 8 ++ (r.i ++ (r.a ++ Z)))))))) 0 8 rfl (putL_length _ _)
    rw [e]; simpa using this
  have f1 : (((secL r).drop 8).take 4) = putL r.e.toNat 4 := by
    rw [e]; exact take_at _ _ _ _ _ (putL_length _ _) (putL_length _ _)
  have f2 : (((secL r).drop 12).take 1) = putL r.k.toNat 1 := by
    rw [e]
    have := take_at (putL r.l.toNat 8 ++ putL r.e.toNat 4) (putL r.k.toNat 1) (putL r.i.length 1 ++ (putL r.a.length 1 ++ (putL r.v.toNat 8 ++ (putL r.d.toNat 8 ++ (r.i ++ (r.a ++ Z)))))) 12 1 (by simp [putL_length]) (putL_length _ _)
    simpa [List.append_assoc] using this
  have f3 : (((secL r).drop 13).take 1) = putL r.i.length 1 := by
    rw [e]
    have := take_at (putL r.l.toNat 8 ++ putL r.e.toNat 4 ++ putL r.k.toNat 1) (putL r.i.length 1) (putL r.a.length 1 ++ (putL r.v.toNat 8 ++ (putL r.d.toNat 8 ++ (r.i ++ (r.a ++ Z))))) 13 1 (by simp [putL_length]) (putL_length _ _)
    simpa [List.append_assoc] using this
  have f4 : (((secL r).drop 14).take 1) = putL r.a.length 1 := by
    rw [e]
    have := take_at (putL r.l.toNat 8 ++ putL r.e.toNat 4 ++ putL r.k.toNat 1 ++ putL r.i.length 1) (putL r.a.length 1) (putL r.v.toNat 8 ++ (putL r.d.toNat 8 ++ (r.i ++ (r.a ++ Z)))) 14 1 (by simp [putL_length]) (putL_length _ _)
    simpa [List.append_assoc] using this
  have f5 : (((secL r).drop 15).take 8) = putL r.v.toNat 8 := by
    rw [e]
    have := take_at (putL r.l.toNat 8 ++ putL r.e.toNat 4 ++ putL r.k.toNat 1 ++ putL r.i.length 1 ++ putL r.a.length 1) (putL r.v.toNat 8) (putL r.d.toNat 8 ++ (r.i ++ (r.a ++ Z))) 15 8 (by simp [putL_length]) (putL_length _ _)
    simpa [List.append_assoc] using this
  have f6 : (((secL r).drop 23).take 8) = putL r.d.toNat 8 := by
    rw [e]
    have := take_at (putL r.l.toNat 8 ++ putL r.e.toNat 4 ++ putL r.k.toNat 1 ++ putL r.i.length 1 ++ putL r.a.length 1 ++ putL r.v.toNat 8) (putL r.d.toNat 8) (r.i ++ (r.a ++ Z)) 23 8 (by simp [putL_length]) (putL_length _ _)
    simpa [List.append_assoc] using this
  have f7 : (((secL r).drop 31).take r.i.length) = r.i := by
    rw [e]
    have := take_at (putL r.l.toNat 8 ++ putL r.e.toNat 4 ++ putL r.k.toNat 1 ++ putL r.i.length 1 ++ putL r.a.length 1 ++ putL r.v.toNat 8 ++ putL r.d.toNat 8) r.i (r.a ++ Z) 31 r.i.length (by simp [putL_length]) rfl
    simpa [List.append_assoc] using this
  have f8 : (((secL r).drop (31 + r.i.length)).take r.a.length) = r.a := by
    rw [e]
    have := take_at (putL r.l.toNat 8 ++ putL r.e.toNat 4 ++ putL r.k.toNat 1 ++ putL r.i.length 1 ++ putL r.a.length 1 ++ putL r.v.toNat 8 ++ putL r.d.toNat 8 ++ r.i) r.a Z (31 + r.i.length) r.a.length (by simp [putL_length]; omega) rfl
    simpa [List.append_assoc] using this
  have g : ∀ (n k : Nat), k ≤ 8 → n < 256 ^ k → getN (putL n k) = n := fun n k hk hn => by rw [getN_putL n k hk, Nat.mod_eq_of_lt hn]
  have g3 : getN (putL r.i.length 1) = r.i.length := g _ 1 (by omega) (by omega)
  have g4 : getN (putL r.a.length 1) = r.a.length := g _ 1 (by omega) (by omega)
  have g0 : getN (putL r.l.toNat 8) = r.l.toNat := g _ 8 (by omega) (by omega)
  have g1 : getN (putL r.e.toNat 4) = r.e.toNat := g _ 4 (by omega) (by omega)
  have g2 : getN (putL r.k.toNat 1) = r.k.toNat := g _ 1 (by omega) (by omega)
  have g5 : getN (putL r.v.toNat 8) = r.v.toNat := g _ 8 (by omega) (by omega)
  have g6 : getN (putL r.d.toNat 8) = r.d.toNat := g _ 8 (by omega) (by omega)
  have q0 : ((r.l.toNat : Nat) : Int) = r.l := Int.toNat_of_nonneg l0
  have q1 : ((r.e.toNat : Nat) : Int) = r.e := Int.toNat_of_nonneg e0
  have q2 : ((r.k.toNat : Nat) : Int) = r.k := Int.toNat_of_nonneg (by omega)
  have q5 : ((r.v.toNat : Nat) : Int) = r.v := Int.toNat_of_nonneg v0
  have q6 : ((r.d.toNat : Nat) : Int) = r.d := Int.toNat_of_nonneg d0
  unfold cutR
  rw [f0, f1, f2, f3, f4, f5, f6, g3, g4, f7, f8, g0, g1, g2, g5, g6, q0, q1, q2, q5, q6]

/-- The record whose sector the bytes are, if there is one. -/
def isSec (s : List UInt8) : Bool := okR (cutR s) && decide (secL (cutR s) = s)

theorem isSec_iff (s : List UInt8) : isSec s = true ↔ okR (cutR s) = true ∧ secL (cutR s) = s := by
  unfold isSec; rw [Bool.and_eq_true, decide_eq_true_iff]

theorem isSec_secL {r : Rec} (hf : Fits r) (h : okR r = true) : isSec (secL r) = true := by
  rw [isSec_iff, cutR_secL hf h]; exact ⟨h, rfl⟩

theorem secL_inj {r q : Rec} (hf : Fits r) (h : okR r = true) (hg : Fits q) (k : okR q = true) (e : secL r = secL q) : r = q := by
  rw [← cutR_secL hf h, e, cutR_secL hg k]

theorem isSec_len {s : List UInt8} (h : isSec s = true) : s.length = 128 := by
  obtain ⟨h1, h2⟩ := (isSec_iff s).1 h
  rw [← h2]; exact secL_len h1

theorem secL_first {r : Rec} (h : okR r = true) : (secL r).take 12 = stampL r := by
  unfold secL bodyL fieldsL
  simp only [List.append_assoc]
  rw [List.take_append_of_le_length (by rw [stampL_len]; omega), List.take_of_length_le (by rw [stampL_len]; omega)]

theorem secL_last {r : Rec} (h : okR r = true) : (secL r).drop 116 = stampL r := by
  unfold secL
  rw [List.drop_append_of_le_length (by rw [List.length_append, bodyL_len h, putL_length]; omega), List.drop_of_length_le (by rw [List.length_append, bodyL_len h, putL_length]; omega), List.nil_append]

theorem secL_body {r : Rec} (h : okR r = true) : (secL r).take 112 = bodyL r := by
  unfold secL
  rw [List.append_assoc, List.take_append_of_le_length (by rw [bodyL_len h]; omega), List.take_of_length_le (by rw [bodyL_len h]; omega)]

theorem secL_sum {r : Rec} (h : okR r = true) : ((secL r).drop 112).take 4 = putL (Crc.more 0 (bodyL r)) 4 := by
  unfold secL
  rw [List.append_assoc]
  exact take_at _ _ _ _ _ (bodyL_len h) (putL_length _ _)

theorem putL_inj {n m k : Nat} (hn : n < 256 ^ k) (hm : m < 256 ^ k) (h : putL n k = putL m k) : n = m := by
  have := congrArg leN h
  rw [leN_putL, leN_putL, Nat.mod_eq_of_lt hn, Nat.mod_eq_of_lt hm] at this
  exact this

theorem stampL_inj {r q : Rec} (hf : Fits r) (hg : Fits q) (h : stampL r = stampL q) : r.l = q.l ∧ r.e = q.e := by
  obtain ⟨l0, l1, e0, e1, v0, v1, d0, d1⟩ := hf
  obtain ⟨l0', l1', e0', e1', v0', v1', d0', d1'⟩ := hg
  unfold stampL at h
  obtain ⟨h1, h2⟩ := List.append_inj h (by rw [putL_length, putL_length])
  have k1 := putL_inj (by omega) (by omega) h1
  have k2 := putL_inj (by omega) (by omega) h2
  omega

theorem stampL_congr {r q : Rec} (h : r.l = q.l) (h' : r.e = q.e) : stampL r = stampL q := by unfold stampL; rw [h, h']

end Go.Proofs.Ytgpcfdkblkkpeaa
