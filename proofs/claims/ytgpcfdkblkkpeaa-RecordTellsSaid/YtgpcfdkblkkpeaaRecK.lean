/- Contracts of check.ID, check.Value and of the document's own (lodgerref04), as in stage 4, for this seat's program. -/
import Derived.Test.YtgpcfdkblkkpeaaRows
import Derived.WalkKit
import Derived.WalkSpells
import Derived.WalkLawsBesides
import Derived.Lib.Hide
import Derived.Lib.Strings
namespace Go.Proofs.Ytgpcfdkblkkpeaa
open Go.RowKit Go.Lib
set_option linter.unusedVariables false
namespace Ck
open Go.RowKit Go.Lib
set_option linter.unusedVariables false
/-- A byte that an id may have. -/
def okc (n : Nat) : Bool := decide ((97 ≤ n ∧ n ≤ 122) ∨ (48 ≤ n ∧ n ≤ 57) ∨ n = 45)
/-- All bytes of a list may be an id's. -/
def oks (l : List UInt8) : Bool := l.all fun c => okc c.toNat
/-- A list of bytes that may be an id. -/
def idB (l : List UInt8) : Bool := decide (1 ≤ l.length ∧ l.length ≤ 16) && oks l
/-- A list of bytes that may be a value. -/
def vaB (n : Nat) : Bool := decide (n ≤ 64)
theorem oks_nil : oks [] = true := rfl
theorem oks_cons (c : UInt8) (l : List UInt8) : oks (c :: l) = (okc c.toNat && oks l) := rfl
theorem oks_append (l m : List UInt8) : oks (l ++ m) = (oks l && oks m) := by unfold oks; rw [List.all_append]
theorem oks_snoc (l : List UInt8) (c : UInt8) : oks (l ++ [c]) = (oks l && okc c.toNat) := by
  rw [oks_append, oks_cons, oks_nil, Bool.and_true]
theorem oks_take (l : List UInt8) (k : Nat) (h : oks l = true) : oks (l.take k) = true := by
  rw [← List.take_append_drop k l, oks_append, Bool.and_eq_true] at h; exact h.1
theorem oks_drop (l : List UInt8) (k : Nat) (h : oks l = true) : oks (l.drop k) = true := by
  rw [← List.take_append_drop k l, oks_append, Bool.and_eq_true] at h; exact h.2
theorem take_snoc (s : ByteArray) (k : Nat) (h : k < s.size) : s.data.toList.take (k + 1) = s.data.toList.take k ++ [s[k]] := by
  rw [List.take_succ_eq_append_getElem (by simpa using h)]; rfl
theorem oks_at (s : ByteArray) (k : Nat) (h : k < s.size) (b : okc s[k].toNat = false) : oks s.data.toList = false := by
  cases e : oks s.data.toList
  · rfl
  · have := oks_take _ (k + 1) e
    rw [take_snoc s k h, oks_snoc, b, Bool.and_false] at this
    exact absurd this (by decide)
theorem idB_len (s : ByteArray) (h : s.size < 1 ∨ 16 < s.size) : idB s.data.toList = false := by
  have e := Go.Lib.size_eq s
  unfold idB
  rw [decide_eq_false (by omega), Bool.false_and]
theorem idB_oks (s : ByteArray) (h : 1 ≤ s.size) (h' : s.size ≤ 16) : idB s.data.toList = oks s.data.toList := by
  have e := Go.Lib.size_eq s
  unfold idB
  rw [decide_eq_true (by omega), Bool.true_and]
theorem within_yes (x lo hi : Int) (w : World) (h1 : lo ≤ x) (h2 : x ≤ hi) :
    Calls Try.prog 42 #[.int .i64 x, .int .i64 lo, .int .i64 hi] w fun e w' => e = .returned (.bool true) ∧ w = w' := by
  go_enter Try.func42, Try.ntmps42
  go_wp2_with fail
  go_ret
  exact ⟨rfl, rfl⟩
theorem within_no (x lo hi : Int) (w : World) (h : x < lo ∨ hi < x) :
    Calls Try.prog 42 #[.int .i64 x, .int .i64 lo, .int .i64 hi] w fun e w' => e = .returned (.bool false) ∧ w = w' := by
  by_cases h1 : x < lo
  · clear h
    go_enter Try.func42, Try.ntmps42
    go_wp2_with fail
    go_ret
    exact ⟨rfl, rfl⟩
  · have h2 : lo ≤ x := by omega
    have h3 : decide (x ≤ hi) = false := decide_eq_false (by omega)
    clear h h1
    go_enter Try.func42, Try.ntmps42
    go_wp2_with fail
    go_ret
    exact ⟨rfl, rfl⟩
theorem within8_yes (x lo hi : Int) (w : World) (h1 : lo ≤ x) (h2 : x ≤ hi) :
    Calls Try.prog 54 #[.int .u8 x, .int .u8 lo, .int .u8 hi] w fun e w' => e = .returned (.bool true) ∧ w = w' := by
  go_enter Try.func54, Try.ntmps54
  go_wp2_with fail
  go_ret
  exact ⟨rfl, rfl⟩
theorem within8_no (x lo hi : Int) (w : World) (h : x < lo ∨ hi < x) :
    Calls Try.prog 54 #[.int .u8 x, .int .u8 lo, .int .u8 hi] w fun e w' => e = .returned (.bool false) ∧ w = w' := by
  by_cases h1 : x < lo
  · clear h
    go_enter Try.func54, Try.ntmps54
    go_wp2_with fail
    go_ret
    exact ⟨rfl, rfl⟩
  · have h2 : lo ≤ x := by omega
    have h3 : decide (x ≤ hi) = false := decide_eq_false (by omega)
    clear h h1
    go_enter Try.func54, Try.ntmps54
    go_wp2_with fail
    go_ret
    exact ⟨rfl, rfl⟩
theorem isid_any (n : Nat) (w : World) :
    Calls Try.prog 43 #[.int .u8 (n : Int)] w fun e w' => e = .returned (.bool (okc n)) ∧ w = w' := by
  by_cases h1 : (97 : Int) ≤ n ∧ (n : Int) ≤ 122
  · have e : okc n = true := by unfold okc; rw [decide_eq_true (by omega)]
    rw [e]
    clear e
    go_enter Try.func43, Try.ntmps43
    go_wp2_with fail
    refine (within8_yes n 97 122 _ h1.1 h1.2).mono ?_
    rintro e w' ⟨rfl, rfl⟩
    go_wp2_with fail
    go_ret
    exact ⟨rfl, rfl⟩
  · have h1' : (n : Int) < 97 ∨ (122 : Int) < n := by omega
    by_cases h2 : (48 : Int) ≤ n ∧ (n : Int) ≤ 57
    · have e : okc n = true := by unfold okc; rw [decide_eq_true (by omega)]
      rw [e]
      clear e h1
      go_enter Try.func43, Try.ntmps43
      go_wp2_with fail
      refine (within8_no n 97 122 _ h1').mono ?_
      rintro e w' ⟨rfl, rfl⟩
      go_wp2_with fail
      refine (within8_yes n 48 57 _ h2.1 h2.2).mono ?_
      rintro e w' ⟨rfl, rfl⟩
      go_wp2_with fail
      go_ret
      exact ⟨rfl, rfl⟩
    · have h2' : (n : Int) < 48 ∨ (57 : Int) < n := by omega
      obtain ⟨b, hb⟩ : ∃ b, ((n : Int) == 45) = b := ⟨_, rfl⟩
      have e : okc n = b := by
        rw [← hb]; unfold okc
        rw [Bool.eq_iff_iff, decide_eq_true_iff, beq_iff_eq]; omega
      rw [e]
      clear e h1 h2
      go_enter Try.func43, Try.ntmps43
      go_wp2_with fail
      refine (within8_no n 97 122 _ h1').mono ?_
      rintro e w' ⟨rfl, rfl⟩
      go_wp2_with fail
      refine (within8_no n 48 57 _ h2').mono ?_
      rintro e w' ⟨rfl, rfl⟩
      go_wp2_with fail
      go_ret
      exact ⟨rfl, rfl⟩
theorem ret_bool {a b : Bool} (h : a = b) : Ending.returned (.bool a) = .returned (.bool b) := by rw [h]
set_option maxHeartbeats 400000 in
theorem id_any (s : ByteArray) (w : World) (hs : s.size ≤ maxLen) :
    Calls Try.prog 29 #[.string s] w fun e w' => e = .returned (.bool (idB s.data.toList)) ∧ w = w' := by
  unfold maxLen at hs
  by_cases h : (s.size : Int) < 1 ∨ (16 : Int) < s.size
  · rw [idB_len s (by omega)]
    go_enter Try.func29, Try.ntmps29
    go_wp2_with fail
    refine (within_no s.size 1 16 _ h).mono ?_
    rintro e w' ⟨rfl, rfl⟩
    go_wp2_with fail
    go_ret
    exact ⟨rfl, rfl⟩
  · rw [idB_oks s (by omega) (by omega)]
    have h1 : (1 : Int) ≤ s.size := by omega
    have h2 : (s.size : Int) ≤ 16 := by omega
    clear h
    go_enter Try.func29, Try.ntmps29
    go_wp2_with fail
    refine (within_yes s.size 1 16 _ h1 h2).mono ?_
    rintro e w' ⟨rfl, rfl⟩
    go_wp2_with fail
    go_loop [10] (fun i => ∃ k : Nat, k ≤ s.size ∧ i = .int .i64 k ∧ Hid (oks (s.data.toList.take k) = true)) (fun i => s.size - (intOf i).toNat)
    case atStart => exact ⟨0, Nat.zero_le _, rfl, Lib.hid rfl⟩
    case round =>
      obtain ⟨k, hk, rfl, ho⟩ := hrel
      by_cases hlt : k < s.size
      · by_cases hc : okc s[k].toNat = true
        · have C := Lib.hid (fun w => isid_any s[k].toNat w)
          rw [hc] at C
          have Q : Hid (oks (s.data.toList.take (k + 1)) = true) := by
            refine Lib.hid ?_
            rw [take_snoc s k hlt, oks_snoc, ho.out, hc]; rfl
          clear hc
          go_wp2_with fail
          refine (C.out _).mono ?_
          rintro e w' ⟨rfl, rfl⟩
          go_wp2_with fail
          go_round
          case rel => exact ⟨k + 1, by omega, by go_num, Q⟩
          case measure => simp [intOf]; omega
        · have hc' : okc s[k].toNat = false := by simpa using hc
          have C := Lib.hid (fun w => isid_any s[k].toNat w)
          rw [hc'] at C
          have Q := Lib.hid (oks_at s k hlt hc')
          clear hc hc'
          go_wp2_with fail
          refine (C.out _).mono ?_
          rintro e w' ⟨rfl, rfl⟩
          go_wp2_with fail
          go_ret
          exact ⟨ret_bool Q.out.symm, rfl⟩
      · go_wp2_with fail
        go_ret
        exact ⟨ret_bool (by rw [← ho.out, List.take_of_length_le (by rw [← Go.Lib.size_eq]; omega)]), rfl⟩
theorem value_any (s : ByteArray) (w : World) (hs : s.size ≤ maxLen) :
    Calls Try.prog 30 #[.string s] w fun e w' => e = .returned (.bool (vaB s.size)) ∧ w = w' := by
  unfold maxLen at hs
  unfold vaB
  go_enter Try.func30, Try.ntmps30
  go_wp2_with fail
  go_ret
  exact ⟨ret_bool (by rw [Bool.eq_iff_iff, decide_eq_true_iff, decide_eq_true_iff]; omega), rfl⟩
namespace R4
theorem value_any (s : ByteArray) (w : World) (hs : s.size ≤ maxLen) :
    Calls Try.prog 32 #[.string s] w fun e w' => e = .returned (.bool (vaB s.size)) ∧ w = w' := by
  unfold maxLen at hs
  unfold vaB
  go_enter Try.func32, Try.ntmps32
  go_wp2_with fail
  go_ret
  exact ⟨ret_bool (by rw [Bool.eq_iff_iff, decide_eq_true_iff, decide_eq_true_iff]; omega), rfl⟩
/-- Behind the loop: the length alone. -/
theorem idB_end (s : ByteArray) (h : oks s.data.toList = true) : idB s.data.toList = decide (1 ≤ s.size ∧ s.size ≤ 16) := by
  have e := Go.Lib.size_eq s
  unfold idB
  rw [h, Bool.and_true, ← e]
theorem idB_at (s : ByteArray) (k : Nat) (h : k < s.size) (b : okc s[k].toNat = false) : idB s.data.toList = false := by
  unfold idB
  rw [oks_at s k h b, Bool.and_false]
set_option maxHeartbeats 1000000 in
theorem id_any (s : ByteArray) (w : World) (hs : s.size ≤ maxLen) :
    Calls Try.prog 31 #[.string s] w fun e w' => e = .returned (.bool (idB s.data.toList)) ∧ w = w' := by
  unfold maxLen at hs
  go_enter Try.func31, Try.ntmps31
  go_wp2_with fail
  go_loop [3] (fun i => ∃ k : Nat, k ≤ s.size ∧ i = .int .i64 k ∧ Hid (oks (s.data.toList.take k) = true)) (fun i => s.size - (intOf i).toNat)
  case atStart => exact ⟨0, Nat.zero_le _, rfl, Lib.hid rfl⟩
  case round =>
    obtain ⟨k, hk, rfl, ho⟩ := hrel
    by_cases hlt : k < s.size
    · have Qs : okc s[k].toNat = true → Hid (oks (s.data.toList.take (k + 1)) = true) := by
        intro hc
        refine Lib.hid ?_
        rw [take_snoc s k hlt, oks_snoc, ho.out, hc]; rfl
      have Qn : okc s[k].toNat = false → Hid (idB s.data.toList = false) := fun hc => Lib.hid (idB_at s k hlt hc)
      have q1 : ((97 : Int) ≤ s[k].toNat ∧ (s[k].toNat : Int) ≤ 122) ∨ ((48 : Int) ≤ s[k].toNat ∧ (s[k].toNat : Int) ≤ 57) ∨ (s[k].toNat : Int) = 45 → okc s[k].toNat = true := by
        intro h; unfold okc; rw [decide_eq_true_iff]; omega
      have q2 : ¬ (((97 : Int) ≤ s[k].toNat ∧ (s[k].toNat : Int) ≤ 122) ∨ ((48 : Int) ≤ s[k].toNat ∧ (s[k].toNat : Int) ≤ 57) ∨ (s[k].toNat : Int) = 45) → okc s[k].toNat = false := by
        intro h; unfold okc; rw [decide_eq_false_iff_not]; omega
      by_cases h1 : (97 : Int) ≤ s[k].toNat
      · by_cases h2 : (s[k].toNat : Int) ≤ 122
        · have Q := Qs (q1 (by omega))
          clear Qs Qn q1 q2
          go_wp2_with fail
          go_round
          case rel => exact ⟨k + 1, by omega, by go_num, Q⟩
          case measure => simp [intOf]; omega
        · have Q := Qn (q2 (by omega))
          have h3 : (48 : Int) ≤ s[k].toNat := by omega
          have h4 : ¬ (s[k].toNat : Int) ≤ 57 := by omega
          have h5 : ((s[k].toNat : Int) == 45) = false := by rw [beq_eq_false_iff_ne]; omega
          clear Qs Qn q1 q2
          go_wp2_with fail
          go_ret
          exact ⟨ret_bool Q.out.symm, rfl⟩
      · by_cases h3 : (48 : Int) ≤ s[k].toNat
        · by_cases h4 : (s[k].toNat : Int) ≤ 57
          · have Q := Qs (q1 (by omega))
            clear Qs Qn q1 q2
            go_wp2_with fail
            go_round
            case rel => exact ⟨k + 1, by omega, by go_num, Q⟩
            case measure => simp [intOf]; omega
          · have Q := Qn (q2 (by omega))
            have h5 : ((s[k].toNat : Int) == 45) = false := by rw [beq_eq_false_iff_ne]; omega
            clear Qs Qn q1 q2
            go_wp2_with fail
            go_ret
            exact ⟨ret_bool Q.out.symm, rfl⟩
        · by_cases h5 : ((s[k].toNat : Int) == 45) = true
          · have Q := Qs (q1 (by have := eq_of_beq h5; omega))
            clear Qs Qn q1 q2
            go_wp2_with fail
            go_round
            case rel => exact ⟨k + 1, by omega, by go_num, Q⟩
            case measure => simp [intOf]; omega
          · have h5' : ((s[k].toNat : Int) == 45) = false := by simpa using h5
            have Q := Qn (q2 (by rw [beq_eq_false_iff_ne] at h5'; omega))
            clear Qs Qn q1 q2 h5
            go_wp2_with fail
            go_ret
            exact ⟨ret_bool Q.out.symm, rfl⟩
    · have Q : Hid (idB s.data.toList = decide (1 ≤ s.size ∧ s.size ≤ 16)) := by
        refine Lib.hid (idB_end s ?_)
        rw [← ho.out, List.take_of_length_le (by rw [← Go.Lib.size_eq]; omega)]
      clear ho
      by_cases h1 : (1 : Int) ≤ s.size
      · by_cases h2 : (s.size : Int) ≤ 16
        · go_wp2_with fail
          go_ret
          exact ⟨ret_bool (by rw [Q.out, decide_eq_true (by omega)]), rfl⟩
        · go_wp2_with fail
          go_ret
          exact ⟨ret_bool (by rw [Q.out, decide_eq_false (by omega)]), rfl⟩
      · go_wp2_with fail
        go_ret
        exact ⟨ret_bool (by rw [Q.out, decide_eq_false (by omega)]), rfl⟩
end R4
end Ck

end Go.Proofs.Ytgpcfdkblkkpeaa
