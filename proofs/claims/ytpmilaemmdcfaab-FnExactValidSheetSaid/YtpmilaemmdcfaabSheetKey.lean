/- Helper: ValidSheet, of the program and of its reference. Conditions: none. -/
import Derived.Test.YtpmilaemmdcfaabSheet
import Derived.Test.YtpmilaemmdcfaabSheetName
import Derived.Test.YtpmilaemmdcfaabMatValid
import Derived.Test.YtpmilaemmdcfaabKeys
set_option linter.unusedVariables false
set_option linter.unusedSimpArgs false
namespace Go.Proofs.Ytpmilaemmdcfaab
open Go.RowKit

set_option maxHeartbeats 1000000 in
theorem specIs_one (b : Nat) (R C : Int) (a : Option Addr) (n c : Nat) (Z : Nat → Nat) (w : World) (hn : n ≤ 1048576) (hb0 : w.cell? ⟨b, 1, none⟩ = some (.int .i64 R)) (hb1 : w.cell? ⟨b, 2, none⟩ = some (.int .i64 C)) (hb2 : w.cell? ⟨b, 3, none⟩ = some (.slice a n c)) (h : FS .f32 w a n c Z) :
    Calls Try.prog 66 #[.pointer (some ⟨b, 1, none⟩)] w fun e w' => e = .returned (.bool (validB R C n (vals Z))) ∧ ∃ m, w' = w.drewN m := by
  have hs := specSides_any R C
  have hfin : ∀ W, FS .f32 W a n c Z → Calls Try.prog 59 #[.slice a n c] W fun e w' => e = .returned (.bool (allFin (vals Z) n)) ∧ ∃ m, w' = W.drewN m := fun W hW => specFin_any a n c Z W hn hW
  cases h1 : (sideB R && sideB C) with
  | false =>
    rw [h1] at hs
    have HB : Hid (validB R C n (vals Z) = false) := Lib.hid (by unfold validB; rw [h1]; rfl)
    clear h1 hfin
    go_enter Try.func66, Try.ntmps66
    go_wp2
    go_quiet ((go_at_call 70; exact quiet_left (hs _)))
    go_wp2
    go_ret
    exact ⟨by rw [HB.out]; rfl, _, rfl⟩
  | true =>
    rw [h1] at hs
    have h12 := h1
    simp only [Bool.and_eq_true] at h12
    obtain ⟨m1, m2⟩ := mul_sides (sideB_le h12.1) (sideB_le h12.2)
    by_cases h3 : (n : Int) = R * C
    · have HB : Hid (validB R C n (vals Z) = allFin (vals Z) n) := Lib.hid (by unfold validB; rw [h1, decide_eq_true h3]; rfl)
      have hd : ((n : Int) == R * C) = true := beq_iff_eq.2 h3
      have h3' := Lib.hid h3
      clear h3 h12 h1
      cases hv : allFin (vals Z) n
      all_goals
       rw [hv] at HB hfin
       clear hv
       go_enter Try.func66, Try.ntmps66
       go_wp2
       go_quiet (first | (go_at_call 70; exact quiet_left (hs _)) | (go_at_call 59; exact Calls.quiet_of (hfin _ (FS.drewN h))))
       go_wp2
       go_ret
       exact ⟨by rw [HB.out]; rfl, _, rfl⟩
    · have HB : Hid (validB R C n (vals Z) = false) := Lib.hid (by unfold validB; rw [decide_eq_false h3]; simp)
      have hd : ((n : Int) == R * C) = false := beq_eq_false_iff_ne.2 h3
      have h3' := Lib.hid h3
      clear h3 h12 h1 hfin
      go_enter Try.func66, Try.ntmps66
      go_wp2
      go_quiet ((go_at_call 70; exact quiet_left (hs _)))
      go_wp2
      go_ret
      exact ⟨by rw [HB.out]; rfl, _, rfl⟩
def sheetB (s : ByteArray) (R C : Int) (n : Nat) (V : Nat → Option Nat) : Bool := nameP s && validB R C n V
set_option maxRecDepth 20000 in
theorem l07Sheet_any (b : Nat) (s : ByteArray) (R C : Int) (a : Option Addr) (n c : Nat) (Z : Nat → Nat) (w : World) (hs : s.size ≤ maxLen) (hn : n ≤ 1048576) (k0 : w.cell? ⟨b, 0, none⟩ = some (.string s)) (k1 : w.cell? ⟨b, 1, none⟩ = some (.int .i64 R)) (k2 : w.cell? ⟨b, 2, none⟩ = some (.int .i64 C)) (k3 : w.cell? ⟨b, 3, none⟩ = some (.slice a n c)) (h : FS .f32 w a n c Z) :
    Calls Try.prog 54 #[.pointer (some ⟨b, 0, none⟩)] w fun e w' => e = .returned (.bool (sheetB s R C n (vals Z))) ∧ ∃ m, w' = w.drewN m := by
  have hN := specName_any s hs
  have hI := specIs_one b R C a n c Z w hn k1 k2 k3 h
  cases hp : nameP s with
  | false =>
    have HB := Lib.hid (show sheetB s R C n (vals Z) = false by unfold sheetB; rw [hp]; rfl)
    rw [hp] at hN
    clear hp hI
    go_enter Try.func54, Try.ntmps54
    go_wp2_with fail
    go_at_call 65
    refine (hN _).mono ?_
    rintro e w' ⟨rfl, rfl⟩
    go_wp2_with fail
    go_ret
    exact ⟨by rw [HB.out]; rfl, 0, rfl⟩
  | true =>
    have HB := Lib.hid (show sheetB s R C n (vals Z) = validB R C n (vals Z) by unfold sheetB; rw [hp]; rfl)
    rw [hp] at hN
    rw [HB.out]
    clear hp HB
    go_enter Try.func54, Try.ntmps54
    go_wp2_with fail
    go_at_call 65
    refine (hN _).mono ?_
    rintro e w' ⟨rfl, rfl⟩
    go_wp2_with fail
    go_at_call 66
    refine hI.mono ?_
    rintro e w' ⟨rfl, m1, rfl⟩
    go_wp2_with fail
    go_ret
    exact ⟨rfl, m1, rfl⟩
set_option maxRecDepth 20000 in
theorem specSheet_any (s : ByteArray) (R C : Int) (a : Option Addr) (n c : Nat) (Z : Nat → Nat) (w : World) (hs : s.size ≤ maxLen) (hn : n ≤ 1048576) (h : FS .f32 w a n c Z) :
    Calls Try.prog 28 #[.agg #[.string s, .int .i64 R, .int .i64 C, .slice a n c]] w fun e w' => e = .returned (.bool (sheetB s R C n (vals Z))) ∧ Below w.heap.size w w' := by
  go_enter Try.func28, Try.ntmps28
  go_wp2_with fail
  go_at_call 54
  refine (l07Sheet_any _ s R C a n c Z _ hs hn (by simp [go_sem]) (by simp [go_sem]) (by simp [go_sem]) (by simp [go_sem]) (h.below (by repeat first | (with_reducible exact Below.refl _ _) | (with_reducible refine Below.setCell ?_ (by first | exact Nat.le_refl _ | (simp; done) | (simp; omega) | omega) _) | (with_reducible refine Below.alloc ?_ (by first | exact Nat.le_refl _ | (simp; done) | (simp; omega) | omega) _) | (with_reducible refine below_drewN ?_ _) | (with_reducible refine Below.drew ?_)) (Nat.le_refl _))).mono ?_
  rintro e w' ⟨rfl, m1, rfl⟩
  go_wp2_with fail
  go_ret
  exact ⟨rfl, (by repeat first | (with_reducible exact Below.refl _ _) | (with_reducible refine Below.setCell ?_ (by first | exact Nat.le_refl _ | (simp; done) | (simp; omega) | omega) _) | (with_reducible refine Below.alloc ?_ (by first | exact Nat.le_refl _ | (simp; done) | (simp; omega) | omega) _) | (with_reducible refine below_drewN ?_ _) | (with_reducible refine Below.drew ?_))⟩
set_option maxRecDepth 20000 in
theorem implSheet_any (s : ByteArray) (R C : Int) (a : Option Addr) (n c : Nat) (Z : Nat → Nat) (w : World) (hs : s.size ≤ maxLen) (hn : n ≤ 1048576) (h : FS .f32 w a n c Z) :
    Calls Try.prog 30 #[.agg #[.string s, .int .i64 R, .int .i64 C, .slice a n c]] w fun e w' => e = .returned (.bool (sheetB s R C n (vals Z))) ∧ Below w.heap.size w w' := by
  have X0 : BoxL (w.alloc (.cells #[.string s, .int .i64 R, .int .i64 C, .slice a n c] 50)) w.heap.size [.string s, .int .i64 R, .int .i64 C, .slice a n c] := BoxL.four (by simp [go_sem]) (by simp [go_sem]) (by simp [go_sem]) (by simp [go_sem])
  cases hp : nameP s with
  | false =>
    have HB := Lib.hid (show sheetB s R C n (vals Z) = false by unfold sheetB; rw [hp]; rfl)
    go_enter Try.func30, Try.ntmps30
    go_wp2_with fail
    go_at_call 56
    refine (implName_any s hs _).mono ?_
    rw [hp]
    rintro e w1 ⟨rfl, b1⟩
    have B1 : Below w.heap.size w w1 := Below.trans (by repeat first | (with_reducible exact Below.refl _ _) | (with_reducible refine Below.setCell ?_ (by first | exact Nat.le_refl _ | (simp; done) | (simp; omega) | omega) _) | (with_reducible refine Below.alloc ?_ (by first | exact Nat.le_refl _ | (simp; done) | (simp; omega) | omega) _) | (with_reducible refine below_drewN ?_ _) | (with_reducible refine Below.drew ?_)) (b1.mono (by simp))
    go_wp2_with fail
    go_ret
    exact ⟨by rw [HB.out]; rfl, B1⟩
  | true =>
    have HB := Lib.hid (show sheetB s R C n (vals Z) = validB R C n (vals Z) by unfold sheetB; rw [hp]; rfl)
    rw [HB.out]
    go_enter Try.func30, Try.ntmps30
    go_wp2_with fail
    go_at_call 56
    refine (implName_any s hs _).mono ?_
    rw [hp]
    rintro e w1 ⟨rfl, b1⟩
    have B1 : Below w.heap.size w w1 := Below.trans (by repeat first | (with_reducible exact Below.refl _ _) | (with_reducible refine Below.setCell ?_ (by first | exact Nat.le_refl _ | (simp; done) | (simp; omega) | omega) _) | (with_reducible refine Below.alloc ?_ (by first | exact Nat.le_refl _ | (simp; done) | (simp; omega) | omega) _) | (with_reducible refine below_drewN ?_ _) | (with_reducible refine Below.drew ?_)) (b1.mono (by simp))
    have X1 := X0.below b1 (by simp)
    have x1 := X1 1 _ rfl
    have x2 := X1 2 _ rfl
    have x3 := X1 3 _ rfl
    have l1 : w.heap.size < w1.heap.size := by have := b1.size; simp at this; omega
    clear b1 X1 X0 HB hp
    go_wp2_with fail
    go_at_call 57
    refine (implValid_any R C a n c Z _ hn (h.below B1 (Nat.le_refl _))).mono ?_
    rintro e w2 ⟨rfl, b2⟩
    have B2 := B1.trans (b2.mono B1.size)
    go_wp2_with fail
    go_ret
    exact ⟨rfl, B2⟩
theorem keyValidSheet (s : ByteArray) (R C : Int) (n : Nat) (Z : Nat → Nat) (hs : s.size ≤ maxLen) (wR : (Lit.int .i64 R).wf = true) (wC : (Lit.int .i64 C).wf = true) (hn : n ≤ 1048576) :
    ∃ ok : Bool, (∀ (a : Option Addr) (c : Nat) (w : World), FS .f32 w a n c Z → Calls Try.prog 28 #[.agg #[.string s, .int .i64 R, .int .i64 C, .slice a n c]] w fun e w' => e = .returned (.bool ok) ∧ Below w.heap.size w w') ∧
      (∀ (a : Option Addr) (c : Nat) (w : World), FS .f32 w a n c Z → Calls Try.prog 30 #[.agg #[.string s, .int .i64 R, .int .i64 C, .slice a n c]] w fun e w' => e = .returned (.bool ok) ∧ Below w.heap.size w w') :=
  ⟨sheetB s R C n (vals Z), fun a c w h => specSheet_any s R C a n c Z w hs hn h, fun a c w h => implSheet_any s R C a n c Z w hs hn h⟩
end Go.Proofs.Ytpmilaemmdcfaab
