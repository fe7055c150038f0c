/- Helper: walks of the check number, of the program and of its reference. Conditions: none. -/
import Derived.Test.YtbhndehndfnhiacChecked
import Derived.WalkKit
import Derived.WalkLawsBesides
import Derived.WalkSmall
import Derived.Lib.Hide
set_option linter.unusedVariables false
namespace Go.Proofs.Ytbhndehndfnhiac
open Go.RowKit

def chkStep (n : Int) (c : UInt8) : Int := (863 * n + c.toNat + 157) % 65003
def chkP (n : Int) (l : List UInt8) : Int := l.foldl chkStep n

theorem chkStep_bd (n : Int) (c : UInt8) (h : 0 ≤ n ∧ n ≤ 65002) : 0 ≤ chkStep n c ∧ chkStep n c ≤ 65002 := by
  unfold chkStep; omega
theorem chkP_bd (l : List UInt8) : ∀ n : Int, 0 ≤ n ∧ n ≤ 65002 → 0 ≤ chkP n l ∧ chkP n l ≤ 65002 := by
  induction l with
  | nil => intro n h; exact h
  | cons c l ih => intro n h; exact ih _ (chkStep_bd n c h)
theorem take_snoc' (s : ByteArray) (k : Nat) (h : k < s.size) : s.data.toList.take (k + 1) = s.data.toList.take k ++ [s[k]] := by
  rw [List.take_succ_eq_append_getElem (by simpa using h)]; rfl
theorem chkP_snoc (n : Int) (l : List UInt8) (c : UInt8) : chkP n (l ++ [c]) = (863 * chkP n l + (c.toNat : Int) + 157) % 65003 := by
  unfold chkP; rw [List.foldl_append]; rfl

set_option maxHeartbeats 400000 in
theorem specCheck_any (n : Int) (h0 : 0 ≤ n) (h1 : n ≤ 65002) (s : ByteArray) (hs : s.size ≤ maxLen) (w : World) :
    Calls Try.prog 17 #[.int .i64 n, .string s] w fun e w' => e = .returned (.int .i64 (chkP n s.data.toList)) ∧ w = w' := by
  unfold maxLen at hs
  go_enter Try.func17, Try.ntmps17
  go_wp2
  go_loop [0, 5] (fun t i => ∃ k : Nat, k ≤ s.size ∧ i = .int .i64 k ∧ t = .int .i64 (chkP n (s.data.toList.take k))) (fun _ i => s.size - (intOf i).toNat)
  case atStart => exact ⟨0, Nat.zero_le _, rfl, rfl⟩
  case round =>
    obtain ⟨k, hk, rfl, rfl⟩ := hrel
    have hd := chkP_bd (s.data.toList.take k) n ⟨h0, h1⟩
    obtain ⟨hd0, hd1⟩ := hd
    by_cases hlt : k < s.size
    · have hsn := chkP_snoc n (s.data.toList.take k) s[k]
      rw [← take_snoc' s k hlt] at hsn
      have hc : s[k].toNat < 256 := s[k].toNat_lt
      have HS := Lib.hid hsn
      clear hsn
      go_wp2
      go_round
      case rel => exact ⟨k + 1, by omega, by go_num, by rw [HS.out]⟩
      case measure => simp [intOf]; omega
    · go_wp2
      go_ret
      exact ⟨by rw [List.take_of_length_le (by simp; omega)]; rfl, rfl⟩

set_option maxHeartbeats 400000 in
theorem implCheck_any (n : Int) (h0 : 0 ≤ n) (h1 : n ≤ 65002) (s : ByteArray) (hs : s.size ≤ maxLen) (w : World) :
    Calls Try.prog 10 #[.int .i64 n, .string s] w fun e w' => e = .returned (.tuple #[.int .i64 (chkP n s.data.toList), .bool true]) ∧ w = w' := by
  unfold maxLen at hs
  go_enter Try.func10, Try.ntmps10
  go_wp2
  go_loop [6, 17] (fun t i => ∃ k : Nat, k ≤ s.size ∧ i = .int .i64 k ∧ t = .int .i64 (chkP n (s.data.toList.take k))) (fun _ i => s.size - (intOf i).toNat)
  case atStart => exact ⟨0, Nat.zero_le _, rfl, rfl⟩
  case round =>
    obtain ⟨k, hk, rfl, rfl⟩ := hrel
    have hd := chkP_bd (s.data.toList.take k) n ⟨h0, h1⟩
    obtain ⟨hd0, hd1⟩ := hd
    by_cases hlt : k < s.size
    · have hsn := chkP_snoc n (s.data.toList.take k) s[k]
      rw [← take_snoc' s k hlt] at hsn
      have hc : s[k].toNat < 256 := s[k].toNat_lt
      have HS := Lib.hid hsn
      clear hsn
      go_wp2
      go_round
      case rel => exact ⟨k + 1, by omega, by go_num, by rw [HS.out]⟩
      case measure => simp [intOf]; omega
    · go_wp2
      go_ret2
      exact ⟨by rw [List.take_of_length_le (by simp; omega)]; rfl, rfl⟩

theorem law_FnExactCheckOf (n : Int) (wn : (Lit.int .i64 n).wf = true) (s : ByteArray) (hs : s.size ≤ maxLen) (w : World) :
    Calls Try.prog 4 #[.int .i64 n, .string s] w fun e w' => e = .returned (.bool true) ∧ Below w.heap.size w w' := by
  have hs' : (s.size : Int) ≤ 9223372036854775807 := by unfold maxLen at hs; omega
  by_cases hl : (1048576 : Int) < (s.size : Int)
  · go_enter Try.func4, Try.ntmps4
    go_wp2
    go_ret
    exact ⟨rfl, Below.refl _ _⟩
  · by_cases h : 0 ≤ n ∧ n ≤ 65002
    · obtain ⟨h0, h1⟩ := h
      have hin : Calls Try.prog 16 #[.int .i64 n, .int .i64 0, .int .i64 65002] w fun e w' => e = .returned (.bool true) ∧ w = w' := by
        go_enter Try.func16, Try.ntmps16
        go_wp2
        go_ret
        exact ⟨rfl, rfl⟩
      have hsp : Calls Try.prog 9 #[.int .i64 n, .string s] w fun e w' => e = .returned (.tuple #[.int .i64 (chkP n s.data.toList), .bool true]) ∧ w = w' := by
        go_enter Try.func9, Try.ntmps9
        go_wp2_with (first | (go_at_call 16; refine hin.mono ?_; rintro e w' ⟨rfl, rfl⟩) | (go_at_call 17; refine (specCheck_any n h0 h1 s hs _).mono ?_; rintro e w' ⟨rfl, rfl⟩))
        go_ret2
        exact ⟨rfl, rfl⟩
      go_enter Try.func4, Try.ntmps4
      go_wp2_with (first | (go_at_call 9; refine hsp.mono ?_; rintro e w' ⟨rfl, rfl⟩) | (go_at_call 10; refine (implCheck_any n h0 h1 s hs _).mono ?_; rintro e w' ⟨rfl, rfl⟩))
      go_ret
      exact ⟨rfl, Below.refl _ _⟩
    · have hin : Calls Try.prog 16 #[.int .i64 n, .int .i64 0, .int .i64 65002] w fun e w' => e = .returned (.bool false) ∧ w = w' := by
        by_cases h0 : n < 0
        · go_enter Try.func16, Try.ntmps16
          go_wp2
          go_ret
          exact ⟨rfl, rfl⟩
        · have h1 : 65002 < n := by omega
          have hd : decide (n ≤ 65002) = false := decide_eq_false (by omega)
          go_enter Try.func16, Try.ntmps16
          go_wp2
          go_ret
          exact ⟨rfl, rfl⟩
      have hsp : Calls Try.prog 9 #[.int .i64 n, .string s] w fun e w' => e = .returned (.tuple #[.int .i64 0, .bool false]) ∧ w = w' := by
        go_enter Try.func9, Try.ntmps9
        go_wp2_with (go_at_call 16; refine hin.mono ?_; rintro e w' ⟨rfl, rfl⟩)
        go_ret2
        exact ⟨rfl, rfl⟩
      have hi : Calls Try.prog 10 #[.int .i64 n, .string s] w fun e w' => e = .returned (.tuple #[.int .i64 0, .bool false]) ∧ w = w' := by
        by_cases h0 : n < 0
        · go_enter Try.func10, Try.ntmps10
          go_wp2
          go_ret2
          exact ⟨rfl, rfl⟩
        · have h1 : 65002 < n := by omega
          go_enter Try.func10, Try.ntmps10
          go_wp2
          go_ret2
          exact ⟨rfl, rfl⟩
      go_enter Try.func4, Try.ntmps4
      go_wp2_with (first | (go_at_call 9; refine hsp.mono ?_; rintro e w' ⟨rfl, rfl⟩) | (go_at_call 10; refine hi.mono ?_; rintro e w' ⟨rfl, rfl⟩))
      go_ret
      exact ⟨rfl, Below.refl _ _⟩
end Go.Proofs.Ytbhndehndfnhiac
