/- Helper: nothing taken away from a 32-bit number. Conditions: none. -/
import Derived.Test.YtffmjfgechdjjabAbsAll
set_option linter.unusedVariables false
set_option linter.unusedSimpArgs false
namespace Go.Proofs.Ytffmjfgechdjjab
open Go.RowKit
section
open Ieee

theorem cut_even (s : Bool) (n d : Nat) : Toward.even.cut s n d = Toward.even.cut false n d := rfl
theorem nearest_sign (s : Bool) (m : Nat) (e : Int) : single.nearest s m e = (if s then 2147483648 else 0) + single.nearest false m e := by
  obtain ⟨e1, e2, e3, e4⟩ := single_consts
  unfold Format.nearest Format.word
  cases s
  · simp
  · simp only [if_true, Bool.false_eq_true, if_false, cut_even true]
    split <;> rw [e1]
theorem sub_zero {X : Option Nat} (h : plainW X) : fop .sub .f32 X (some 0) = X := by
  obtain ⟨e1, e2, e3, e4⟩ := single_consts
  have e0 : single.read 0 = .number false 0 (-149) := by decide +kernel
  rcases plain_cases h with rfl | hf | ⟨x, s, rfl, hr, hx⟩
  · rfl
  · cases X with
    | none => rfl
    | some x =>
      have hx := (h x rfl).2
      rcases read_single x with ⟨s, hr⟩ | ⟨s, t, hr⟩ | ⟨s, m, e, hr, hm, h1, h2⟩
      · exfalso; unfold finite at hf; simp only at hf; have hr' : FloatKind.f32.decode x = .infinity s := hr; rw [hr'] at hf; cases hf
      · exfalso; unfold finite at hf; simp only at hf; have hr' : FloatKind.f32.decode x = .nan s t := hr; rw [hr'] at hf; cases hf
      · obtain ⟨w1, w2, w3, _⟩ := write_read_single hr
        have es : fop .sub .f32 (some x) (some 0) = ((single.read x).sum (single.read 0).opposite).map single.write := rfl
        have em : min e (-149 : Int) = -149 := by omega
        have et : (e - -149).toNat = (e + 149).toNat := by omega
        have hsgn : ∀ s', signed s' m (e + 149).toNat = if s' then -((m <<< (e + 149).toNat : Nat) : Int) else ((m <<< (e + 149).toNat : Nat) : Int) := fun s' => rfl
        have hsub : single.nearest false (m <<< (e + 149).toNat) (-149) = x % 2147483648 := by
          have := nearest_shift single false m e (e + 149).toNat
          have hee : e - (((e + 149).toNat : Nat) : Int) = -149 := by omega
          rw [hee] at this
          rw [this, w1]
        rw [es, hr, e0]
        simp only [Datum.opposite, Datum.sum, em, signed_zero, Int.add_zero, et, Option.map_some]
        rw [hsgn]
        generalize m <<< (e + 149).toNat = T at hsub
        have hnum : (if (if s = true then -(T : Int) else (T : Int)) = 0 then (s && !false) else decide ((if s = true then -(T : Int) else (T : Int)) < 0)) = s := by
          cases s
          · simp only [Bool.false_eq_true, if_false]
            split
            · rfl
            · exact decide_eq_false (by omega)
          · simp only [if_true]
            split
            · rfl
            · exact decide_eq_true (by omega)
        rw [hnum]
        have habs : (if s = true then -(T : Int) else (T : Int)).natAbs = T := by cases s <;> simp
        rw [habs]
        show some (single.nearest s T (-149)) = some x
        rw [nearest_sign, hsub]
        refine congrArg some ?_
        have hd : x / 2147483648 % 2 = x / 2147483648 := Nat.mod_eq_of_lt (by omega)
        rw [hd] at w3
        cases s
        · have : x / 2147483648 ≠ 1 := by intro h; rw [h] at w3; cases w3
          simp only [Bool.false_eq_true, if_false]
          omega
        · have : x / 2147483648 = 1 := by simpa using w3
          simp only [if_true]
          omega
  · obtain ⟨h1, h2⟩ := read_inf_single hr
    have es : fop .sub .f32 (some x) (some 0) = ((single.read x).sum (single.read 0).opposite).map single.write := rfl
    rw [es, hr, e0]
    show some (single.write (.infinity s)) = some x
    have hd : x / 2147483648 % 2 = x / 2147483648 := Nat.mod_eq_of_lt (by omega)
    rw [hd] at h2
    have hw : single.write (.infinity s) = (if s then 2147483648 else 0) + 2139095040 := by cases s <;> decide +kernel
    rw [hw]
    refine congrArg some ?_
    cases s
    · have : x / 2147483648 ≠ 1 := by intro h; rw [h] at h2; cases h2
      simp only [Bool.false_eq_true, if_false]
      omega
    · have : x / 2147483648 = 1 := by simpa using h2
      simp only [if_true]
      omega
end
end Go.Proofs.Ytffmjfgechdjjab
