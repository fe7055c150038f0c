/- Helper: walks of IsName, of the program and of chapter 7's reference. Conditions: none. -/
import Derived.Test.YtpmilaemmdcfaabChecked
import Derived.WalkKit
import Derived.WalkLawsBesides
import Derived.WalkSmall
import Derived.Laws.RangeAny
import Derived.Lib.Hide
set_option linter.unusedVariables false
set_option linter.unusedSimpArgs false
namespace Go.Proofs.Ytpmilaemmdcfaab
open Go.RowKit

def low (c : UInt8) : Bool := decide (97 ≤ c.toNat) && decide (c.toNat ≤ 122)
def nameP (s : ByteArray) : Bool := decide (1 ≤ s.size) && decide (s.size ≤ 8) && s.data.toList.all low

theorem take_snoc' (s : ByteArray) (k : Nat) (h : k < s.size) : s.data.toList.take (k + 1) = s.data.toList.take k ++ [s[k]] := by
  rw [List.take_succ_eq_append_getElem (by simpa using h)]; rfl
theorem all_bad (s : ByteArray) (k : Nat) (h : k < s.size) (hb : low s[k] = false) : s.data.toList.all low = false := by
  rw [← List.take_append_drop (k + 1) s.data.toList, take_snoc' s k h]
  simp [hb]
theorem nameP_bad (s : ByteArray) (k : Nat) (h : k < s.size) (hb : low s[k] = false) : nameP s = false := by
  unfold nameP; rw [all_bad s k h hb]; simp
theorem nameP_good (s : ByteArray) (k : Nat) (h : ¬ k < s.size) (ha : (s.data.toList.take k).all low = true) : nameP s = (decide (1 ≤ s.size) && decide (s.size ≤ 8)) := by
  rw [List.take_of_length_le (by simp; omega)] at ha
  unfold nameP; rw [ha]; simp

set_option maxHeartbeats 400000 in
theorem specName_any (s : ByteArray) (hs : s.size ≤ maxLen) (w : World) :
    Calls Try.prog 65 #[.string s] w fun e w' => e = .returned (.bool (nameP s)) ∧ w = w' := by
  unfold maxLen at hs
  go_enter Try.func65, Try.ntmps65
  go_wp2
  go_loop [3] (fun i => ∃ k : Nat, k ≤ s.size ∧ i = .int .i64 k ∧ (s.data.toList.take k).all low = true) (fun i => s.size - (intOf i).toNat)
  case atStart => exact ⟨0, Nat.zero_le _, rfl, rfl⟩
  case round =>
    obtain ⟨k, hk, rfl, ha⟩ := hrel
    have HA := Lib.hid ha
    clear ha
    by_cases hlt : k < s.size
    · have hc : s[k].toNat < 256 := s[k].toNat_lt
      have HB := Lib.hid (nameP_bad s k hlt)
      have HS := Lib.hid (take_snoc' s k hlt)
      by_cases h1 : s[k].toNat < 97
      · have hl : low s[k] = false := by unfold low; simp; omega
        have HN := Lib.hid (HB.out hl)
        clear hl HB
        have h1' : (s[k].toNat : Int) < 97 := by omega
        go_wp2
        go_ret
        exact ⟨by rw [HN.out]; rfl, rfl⟩
      · by_cases h2 : 122 < s[k].toNat
        · have hl : low s[k] = false := by unfold low; simp; omega
          have HN := Lib.hid (HB.out hl)
          clear hl HB
          have h1' : (97 : Int) ≤ s[k].toNat := by omega
          have h2' : (122 : Int) < s[k].toNat := by omega
          go_wp2
          go_ret
          exact ⟨by rw [HN.out]; rfl, rfl⟩
        · have hl : low s[k] = true := by unfold low; simp; omega
          have HL := Lib.hid hl
          clear hl HB
          have h1' : (97 : Int) ≤ s[k].toNat := by omega
          have h2' : (s[k].toNat : Int) ≤ 122 := by omega
          go_wp2
          go_round
          case rel => exact ⟨k + 1, by omega, by go_num, by rw [HS.out, List.all_append, HA.out]; simp [HL.out]⟩
          case measure => simp [intOf]; omega
    · have HG := Lib.hid (nameP_good s k hlt HA.out)
      by_cases h0 : 1 ≤ s.size
      · by_cases h8 : s.size ≤ 8
        · have h0' : (1 : Int) ≤ s.size := by omega
          have h8' : (s.size : Int) ≤ 8 := by omega
          go_wp2
          go_ret
          exact ⟨by rw [HG.out]; simp [h0, h8], rfl⟩
        · have h0' : (1 : Int) ≤ s.size := by omega
          have h8' : (8 : Int) < s.size := by omega
          have hd : decide ((s.size : Int) ≤ 8) = false := decide_eq_false (by omega)
          go_wp2
          go_ret
          exact ⟨by rw [HG.out]; simp [h0, h8], rfl⟩
      · have h0' : (s.size : Int) < 1 := by omega
        have hd : decide (1 ≤ (s.size : Int)) = false := decide_eq_false (by omega)
        go_wp2
        go_ret
        exact ⟨by rw [HG.out]; simp [h0], rfl⟩

set_option maxHeartbeats 400000 in
theorem implName_any (s : ByteArray) (hs : s.size ≤ maxLen) (w : World) :
    Calls Try.prog 56 #[.string s] w fun e w' => e = .returned (.bool (nameP s)) ∧ Below w.heap.size w w' := by
  unfold maxLen at hs
  by_cases h0 : s.size < 1
  · have hn : nameP s = false := by unfold nameP; simp; omega
    have HN := Lib.hid hn
    clear hn
    have h0' : (s.size : Int) < 1 := by omega
    go_enter Try.func56, Try.ntmps56
    go_wp2
    go_ret
    exact ⟨by rw [HN.out]; rfl, Below.refl _ _⟩
  · have h0' : (1 : Int) ≤ s.size := by omega
    by_cases h8 : 8 < s.size
    · have hn : nameP s = false := by unfold nameP; simp; omega
      have HN := Lib.hid hn
      clear hn
      have h8' : (8 : Int) < s.size := by omega
      go_enter Try.func56, Try.ntmps56
      go_wp2
      go_ret
      exact ⟨by rw [HN.out]; rfl, Below.refl _ _⟩
    · have h8' : (s.size : Int) ≤ 8 := by omega
      go_enter Try.func56, Try.ntmps56
      go_wp2
      go_loopw [4] (fun _ w' => ∃ pos, w' = w.iter s pos ∧ pos ≤ s.size ∧ (s.data.toList.take pos).all low = true) (fun _ w' => s.size - w'.iterPos w.heap.size)
      case atStart => exact ⟨0, rfl, Nat.zero_le _, rfl⟩
      case round =>
        obtain ⟨pos, rfl, hle, ha⟩ := hrel
        have HA := Lib.hid ha
        clear ha
        by_cases hp : pos < s.size
        · have hc : s[pos].toNat < 256 := s[pos].toNat_lt
          have HB := Lib.hid (nameP_bad s pos hp)
          have HS := Lib.hid (take_snoc' s pos hp)
          have hnx : ∀ ty, (Instr.next (.pointer (some ⟨w.heap.size, 0, none⟩)) true ty).run Try.prog (w.iter s pos) = _ := fun ty => run_next_any w s pos ty hp
          by_cases h7 : s[pos].toNat < 128
          · rw [decode_ascii s pos hp h7] at hnx
            by_cases h1 : s[pos].toNat < 97
            · have hl : low s[pos] = false := by unfold low; simp; omega
              have HN := Lib.hid (HB.out hl)
              clear hl HB
              have h1' : (s[pos].toNat : Int) < 97 := by omega
              go_wp2
              go_ret
              exact ⟨by rw [HN.out]; rfl, (Below.refl _ _).alloc (Nat.le_refl _) _⟩
            · by_cases h2 : 122 < s[pos].toNat
              · have hl : low s[pos] = false := by unfold low; simp; omega
                have HN := Lib.hid (HB.out hl)
                clear hl HB
                have h1' : (97 : Int) ≤ s[pos].toNat := by omega
                have h2' : (122 : Int) < s[pos].toNat := by omega
                go_wp2
                go_ret
                exact ⟨by rw [HN.out]; rfl, (Below.refl _ _).alloc (Nat.le_refl _) _⟩
              · have hl : low s[pos] = true := by unfold low; simp; omega
                have HL := Lib.hid hl
                clear hl HB
                have h1' : (97 : Int) ≤ s[pos].toNat := by omega
                have h2' : (s[pos].toNat : Int) ≤ 122 := by omega
                go_wp2
                go_roundw
                case rel => exact ⟨pos + 1, rfl, by omega, by rw [HS.out, List.all_append, HA.out]; simp [HL.out]⟩
                case measure => simp; omega
          · obtain ⟨hd1, hd2⟩ := decode_high s pos hp (by omega)
            have hd3 := decode_le s pos
            generalize Utf8.decode s pos = d at *
            obtain ⟨r, n⟩ := d
            have hl : low s[pos] = false := by unfold low; simp; omega
            have HN := Lib.hid (HB.out hl)
            clear hl HB
            have h1' : (97 : Int) ≤ r := by simp at hd1; omega
            have h2' : (122 : Int) < r := by simp at hd1; omega
            go_wp2
            go_ret
            exact ⟨by rw [HN.out]; rfl, (Below.refl _ _).alloc (Nat.le_refl _) _⟩
        · have hnx : ∀ ty, (Instr.next (.pointer (some ⟨w.heap.size, 0, none⟩)) true ty).run Try.prog (w.iter s pos) = _ := fun ty => run_next_end w s pos ty hp
          have HG := Lib.hid (nameP_good s pos hp HA.out)
          go_wp2
          go_ret
          exact ⟨by rw [HG.out]; simp; omega, (Below.refl _ _).alloc (Nat.le_refl _) _⟩

end Go.Proofs.Ytpmilaemmdcfaab
