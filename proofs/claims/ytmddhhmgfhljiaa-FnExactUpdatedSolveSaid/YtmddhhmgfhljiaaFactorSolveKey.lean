/- Helper: what the square of a factor makes a list of: what program and reference both tell. Conditions: none. -/
import Derived.Test.YtmddhhmgfhljiaaFactorSolveSpec
set_option linter.unusedVariables false
set_option linter.unusedSimpArgs false
namespace Go.Proofs.Ytmddhhmgfhljiaa
open Go.RowKit

theorem NumsBel.noF {w w' : World} {V : Nat → Option Nat} (h : Below w.heap.size w w') : NumsBel false 0 V w (.returned (.tuple #[.slice none 0 0, .bool false])) w' :=
  ⟨none, 0, fun _ => 0, rfl, ⟨Nat.le_refl _, Nat.zero_le _, fun i hi => absurd hi (Nat.not_lt_zero _)⟩, fun i hi => absurd hi (Nat.not_lt_zero _), h⟩
theorem listF_yes (a : Option Addr) (n c : Nat) (X : Nat → Nat) (w : World) (hn : n ≤ 1048576) (f : FS .f32 w a n c X) (hf : allFin (vals X) n = true) : Calls Try.prog 38 #[.slice a n c] w fun e w' => e = .returned (.tuple #[.slice a n c, .bool true]) ∧ ∃ m, w' = w.drewN m := by
  go_enter Try.func38, Try.ntmps38
  go_wp2_with fail
  go_at_call 80
  refine (specFin_any a n c X _ hn f).mono ?_
  rintro e w4 ⟨rfl, m4, rfl⟩
  go_wp2_with fail
  go_ret2
  exact ⟨rfl, _, rfl⟩
theorem listF_no (a : Option Addr) (n c : Nat) (X : Nat → Nat) (w : World) (hn : n ≤ 1048576) (f : FS .f32 w a n c X) (hf : allFin (vals X) n = false) : Calls Try.prog 38 #[.slice a n c] w fun e w' => e = .returned (.tuple #[.slice none 0 0, .bool false]) ∧ ∃ m, w' = w.drewN m := by
  go_enter Try.func38, Try.ntmps38
  go_wp2_with fail
  go_at_call 80
  refine (specFin_any a n c X _ hn f).mono ?_
  rintro e w4 ⟨rfl, m4, rfl⟩
  go_wp2_with fail
  go_ret2
  exact ⟨rfl, _, rfl⟩
set_option maxRecDepth 20000 in
set_option maxHeartbeats 2000000 in
theorem l03Fits_any (p : Nat) (R C : Int) (a : Option Addr) (n c : Nat) (Z : Nat → Nat) (b : Option Addr) (m d : Nat) (O : Nat → Int) (b2 : Option Addr) (n2 d2 : Nat) (Y : Nat → Nat) (w : World) (hn : n ≤ 1048576) (hm : m ≤ 1048576) (hn2 : n2 ≤ 1048576) (hp : p < w.heap.size)
    (hbx : BoxL w p [.int .i64 R, .int .i64 C, .slice a n c, .slice b m d]) (h : FS .f32 w a n c Z) (h2 : IS .i64 w b m d O) (h3 : FS .f32 w b2 n2 d2 Y) :
    Calls Try.prog 36 #[.pointer (some ⟨p, 0, none⟩), .slice b2 n2 d2] w fun e w' => e = .returned (.bool (factorB R C n (vals Z) m O && fitsB R n2 (vals Y))) ∧ Below w.heap.size w w' := by
  cases hf : factorB R C n (vals Z) m O with
  | false =>
    go_enter Try.func36, Try.ntmps36
    go_wp2_with fail
    go_at_call 56
    refine (specFactor_any p R C a n c Z b m d O _ hn hm hp hbx h h2).mono ?_
    rintro e w1 ⟨rfl, b1⟩
    rw [hf]
    go_wp2_with fail
    go_ret
    exact ⟨rfl, b1⟩
  | true =>
    cases hv : vecB n2 (vals Y) with
    | false =>
      have HB := Lib.hid (show (true && fitsB R n2 (vals Y)) = false by unfold fitsB; rw [hv]; rfl)
      go_enter Try.func36, Try.ntmps36
      go_wp2_with fail
      go_at_call 56
      refine (specFactor_any p R C a n c Z b m d O _ hn hm hp hbx h h2).mono ?_
      rintro e w1 ⟨rfl, b1⟩
      rw [hf]
      clear hf
      go_wp2_with fail
      go_at_call 79
      refine (specVector_any _ n2 d2 Y _ hn2 (h3.below b1 (Nat.le_refl _))).mono ?_
      rintro e w2 ⟨rfl, m2, rfl⟩
      rw [hv]
      clear hv
      go_wp2_with fail
      go_ret
      exact ⟨by rw [HB.out]; rfl, below_drewN b1 _⟩
    | true =>
      have HB := Lib.hid (show (true && fitsB R n2 (vals Y)) = decide ((n2 : Int) = R) by unfold fitsB; rw [hv]; rfl)
      go_enter Try.func36, Try.ntmps36
      go_wp2_with fail
      go_at_call 56
      refine (specFactor_any p R C a n c Z b m d O _ hn hm hp hbx h h2).mono ?_
      rintro e w1 ⟨rfl, b1⟩
      rw [hf]
      clear hf
      have x0 := (hbx.below b1 hp) 0 _ rfl
      go_wp2_with fail
      go_at_call 79
      refine (specVector_any _ n2 d2 Y _ hn2 (h3.below b1 (Nat.le_refl _))).mono ?_
      rintro e w2 ⟨rfl, m2, rfl⟩
      rw [hv]
      clear hv
      by_cases e : (n2 : Int) = R
      · have hd : ((n2 : Int) == R) = true := beq_iff_eq.2 e
        have HE := Lib.hid e
        clear e
        go_wp2_with fail
        go_ret
        exact ⟨by rw [HB.out, decide_eq_true HE.out]; rfl, below_drewN b1 _⟩
      · have hd : ((n2 : Int) == R) = false := beq_eq_false_iff_ne.2 e
        have HE := Lib.hid e
        clear e
        go_wp2_with fail
        go_ret
        exact ⟨by rw [HB.out, decide_eq_false HE.out]; rfl, below_drewN b1 _⟩
set_option maxRecDepth 20000 in
set_option maxHeartbeats 2000000 in
theorem specFSolve_no (R C : Int) (a : Option Addr) (n c : Nat) (Z : Nat → Nat) (b : Option Addr) (m d : Nat) (O : Nat → Int) (b2 : Option Addr) (n2 d2 : Nat) (Y : Nat → Nat) (w : World) (hn : n ≤ 1048576) (hm : m ≤ 1048576) (hn2 : n2 ≤ 1048576) (h : FS .f32 w a n c Z) (h2 : IS .i64 w b m d O) (h3 : FS .f32 w b2 n2 d2 Y)
    (ho : (factorB R C n (vals Z) m O && fitsB R n2 (vals Y)) = false) :
    Calls Try.prog 49 #[.agg #[.int .i64 R, .int .i64 C, .slice a n c, .slice b m d], .slice b2 n2 d2] w (NumsBel false 0 (fun _ => none) w) := by
  go_enter Try.func49, Try.ntmps49
  go_wp2_with fail
  go_at_call 36
  refine (l03Fits_any w.heap.size R C a n c Z b m d O b2 n2 d2 Y _ hn hm hn2 (by simp) (BoxL.four (by simp [go_sem]) (by simp [go_sem]) (by simp [go_sem]) (by simp [go_sem])) (h.below (by repeat first | (with_reducible exact Below.refl _ _) | (with_reducible refine Below.setCell ?_ (by first | exact Nat.le_refl _ | (simp; done) | (simp; omega) | omega) _) | (with_reducible refine Below.alloc ?_ (by first | exact Nat.le_refl _ | (simp; done) | (simp; omega) | omega) _) | (with_reducible refine below_drewN ?_ _) | (with_reducible refine Below.drew ?_)) (Nat.le_refl _)) (h2.below (by repeat first | (with_reducible exact Below.refl _ _) | (with_reducible refine Below.setCell ?_ (by first | exact Nat.le_refl _ | (simp; done) | (simp; omega) | omega) _) | (with_reducible refine Below.alloc ?_ (by first | exact Nat.le_refl _ | (simp; done) | (simp; omega) | omega) _) | (with_reducible refine below_drewN ?_ _) | (with_reducible refine Below.drew ?_)) (Nat.le_refl _)) (h3.below (by repeat first | (with_reducible exact Below.refl _ _) | (with_reducible refine Below.setCell ?_ (by first | exact Nat.le_refl _ | (simp; done) | (simp; omega) | omega) _) | (with_reducible refine Below.alloc ?_ (by first | exact Nat.le_refl _ | (simp; done) | (simp; omega) | omega) _) | (with_reducible refine below_drewN ?_ _) | (with_reducible refine Below.drew ?_)) (Nat.le_refl _))).mono ?_
  rintro e w1 ⟨rfl, b1⟩
  rw [ho]
  have B1 : Below w.heap.size w w1 := Below.trans (by repeat first | (with_reducible exact Below.refl _ _) | (with_reducible refine Below.setCell ?_ (by first | exact Nat.le_refl _ | (simp; done) | (simp; omega) | omega) _) | (with_reducible refine Below.alloc ?_ (by first | exact Nat.le_refl _ | (simp; done) | (simp; omega) | omega) _) | (with_reducible refine below_drewN ?_ _) | (with_reducible refine Below.drew ?_)) (b1.mono (by simp))
  clear b1
  go_wp2_with fail
  go_ret2
  exact NumsBel.noF B1
set_option maxRecDepth 20000 in
set_option maxHeartbeats 2000000 in
theorem specFSolve_yes (r n ba oa c bb ob d bc oc d2 : Nat) (Z : Nat → Nat) (O : Nat → Int) (Y : Nat → Nat) (w : World) (hf : factorB r r n (vals Z) r O = true) (hft : fitsB r r (vals Y) = true) (h : FS .f32 w (some ⟨ba, oa, none⟩) n c Z) (h2 : IS .i64 w (some ⟨bb, ob, none⟩) r d O) (h3 : FS .f32 w (some ⟨bc, oc, none⟩) r d2 Y) :
    Calls Try.prog 49 #[.agg #[.int .i64 (r : Int), .int .i64 (r : Int), .slice (some ⟨ba, oa, none⟩) n c, .slice (some ⟨bb, ob, none⟩) r d], .slice (some ⟨bc, oc, none⟩) r d2] w (NBelIf (allFin (solV r (sq r Z) O (vals Y)) r) r (solV r (sq r Z) O (vals Y)) w) := by
  obtain ⟨r', e1, _, _, h1, h12, hN, _, _, hord, _⟩ := factor_nat hf
  have e2 : r = r' := by omega
  subst e2
  have HN := Lib.hid hN
  have hn144 : n ≤ 144 := by have := sides_le h12 h12; omega
  clear hN e1
  obtain ⟨VX, hVX⟩ : ∃ F, F = solV r (sq r Z) O (vals Y) := ⟨_, rfl⟩
  rw [← hVX]
  have HVX := Lib.hid hVX
  clear hVX
  go_enter Try.func49, Try.ntmps49
  go_wp2_with fail
  go_at_call 36
  refine (l03Fits_any w.heap.size (r : Int) (r : Int) (some ⟨ba, oa, none⟩) n c Z (some ⟨bb, ob, none⟩) r d O (some ⟨bc, oc, none⟩) r d2 Y _ (by omega) (by omega) (by omega) (by simp) (BoxL.four (by simp [go_sem]) (by simp [go_sem]) (by simp [go_sem]) (by simp [go_sem])) (h.below (by repeat first | (with_reducible exact Below.refl _ _) | (with_reducible refine Below.setCell ?_ (by first | exact Nat.le_refl _ | (simp; done) | (simp; omega) | omega) _) | (with_reducible refine Below.alloc ?_ (by first | exact Nat.le_refl _ | (simp; done) | (simp; omega) | omega) _) | (with_reducible refine below_drewN ?_ _) | (with_reducible refine Below.drew ?_)) (Nat.le_refl _)) (h2.below (by repeat first | (with_reducible exact Below.refl _ _) | (with_reducible refine Below.setCell ?_ (by first | exact Nat.le_refl _ | (simp; done) | (simp; omega) | omega) _) | (with_reducible refine Below.alloc ?_ (by first | exact Nat.le_refl _ | (simp; done) | (simp; omega) | omega) _) | (with_reducible refine below_drewN ?_ _) | (with_reducible refine Below.drew ?_)) (Nat.le_refl _)) (h3.below (by repeat first | (with_reducible exact Below.refl _ _) | (with_reducible refine Below.setCell ?_ (by first | exact Nat.le_refl _ | (simp; done) | (simp; omega) | omega) _) | (with_reducible refine Below.alloc ?_ (by first | exact Nat.le_refl _ | (simp; done) | (simp; omega) | omega) _) | (with_reducible refine below_drewN ?_ _) | (with_reducible refine Below.drew ?_)) (Nat.le_refl _))).mono ?_
  rintro e w1 ⟨rfl, b1⟩
  rw [hf, hft]
  have B1 : Below w.heap.size w w1 := Below.trans (by repeat first | (with_reducible exact Below.refl _ _) | (with_reducible refine Below.setCell ?_ (by first | exact Nat.le_refl _ | (simp; done) | (simp; omega) | omega) _) | (with_reducible refine Below.alloc ?_ (by first | exact Nat.le_refl _ | (simp; done) | (simp; omega) | omega) _) | (with_reducible refine below_drewN ?_ _) | (with_reducible refine Below.drew ?_)) (b1.mono (by simp))
  have s1 : w.heap.size < w1.heap.size := by have := b1.size; simp at this; omega
  have X1 : BoxL w1 w.heap.size [.int .i64 (r : Int), .int .i64 (r : Int), .slice (some ⟨ba, oa, none⟩) n c, .slice (some ⟨bb, ob, none⟩) r d] := BoxL.below (BoxL.four (by simp [go_sem]) (by simp [go_sem]) (by simp [go_sem]) (by simp [go_sem])) b1 (by simp)
  clear b1 hf hft
  go_wp2_with fail
  go_at_call 86
  refine (l03Solve_any w.heap.size r n ba oa c bb ob d bc oc d2 Z O Y _ h1 h12 HN.out hord s1 X1 (h.below B1 (Nat.le_refl _)) (h2.below B1 (Nat.le_refl _)) (h3.below B1 (Nat.le_refl _))).mono ?_
  rintro e w2 ⟨g, cp, X, rfl, f2, hX, b2⟩
  have B2 := B1.trans (b2.mono B1.size)
  have hXV : Hid (∀ t, t < r → vals X t = VX t) := Lib.hid (fun t ht => (hX t ht).trans (by rw [HVX.out]))
  have hfin : allFin (vals X) r = allFin VX r := allFin_congr hXV.out
  clear b2 hX B1 X1 s1
  cases ha : allFin VX r with
  | true =>
    rw [ha] at hfin
    go_wp2_with fail
    go_at_call 38
    refine (listF_yes _ r cp X _ (by omega) f2 hfin).mono ?_
    rintro e w3 ⟨rfl, m3, rfl⟩
    go_wp2_with fail
    go_ret2
    exact NBelIf.yes ha ⟨_, _, X, rfl, FS.drewN f2, hXV.out, below_drewN B2 _⟩
  | false =>
    rw [ha] at hfin
    go_wp2_with fail
    go_at_call 38
    refine (listF_no _ r cp X _ (by omega) f2 hfin).mono ?_
    rintro e w3 ⟨rfl, m3, rfl⟩
    go_wp2_with fail
    go_ret2
    exact NBelIf.no ha (NumsBel.noF (below_drewN B2 _))
theorem keyFactorSolve (R C : Int) (n : Nat) (Z : Nat → Nat) (m : Nat) (O : Nat → Int) (n2 : Nat) (Y : Nat → Nat) (wR : (Lit.int .i64 R).wf = true) (wC : (Lit.int .i64 C).wf = true) (hn : n ≤ 1048576) (hm : m ≤ 1048576) (hn2 : n2 ≤ 1048576) : ∃ (ok : Bool) (nr : Nat) (V : Nat → Option Nat), nr ≤ 144 ∧
    (∀ a c b d b2 d2 W, FS .f32 W a n c Z → IS .i64 W b m d O → FS .f32 W b2 n2 d2 Y → Calls Try.prog 49 #[.agg #[.int .i64 R, .int .i64 C, .slice a n c, .slice b m d], .slice b2 n2 d2] W (NumsBel ok nr V W)) ∧
    (∀ a c b d b2 d2 W, FS .f32 W a n c Z → IS .i64 W b m d O → FS .f32 W b2 n2 d2 Y → Calls Try.prog 51 #[.agg #[.int .i64 R, .int .i64 C, .slice a n c, .slice b m d], .slice b2 n2 d2] W (NumsOwn ok nr V W)) := by
  cases ho : (factorB R C n (vals Z) m O && fitsB R n2 (vals Y)) with
  | false => exact ⟨false, 0, fun _ => none, by omega, fun a c b d b2 d2 W h h2 h3 => specFSolve_no R C a n c Z b m d O b2 n2 d2 Y W hn hm hn2 h h2 h3 ho, fun a c b d b2 d2 W h h2 h3 => implSolve_no R C a n c Z b m d O b2 n2 d2 Y W hn hm hn2 h h2 h3 ho⟩
  | true =>
    simp only [Bool.and_eq_true] at ho
    obtain ⟨hf, hft⟩ := ho
    obtain ⟨r, rfl, rfl, rfl, h1, h12, hN, _⟩ := factor_nat hf
    obtain ⟨rfl, _⟩ := fits_natF hft
    have hpos : 0 < n := by rw [hN]; exact Nat.mul_pos h1 h1
    have hs : ∀ a c b d b2 d2 W, FS .f32 W a n c Z → IS .i64 W b n2 d O → FS .f32 W b2 n2 d2 Y → Calls Try.prog 49 #[.agg #[.int .i64 (n2 : Int), .int .i64 (n2 : Int), .slice a n c, .slice b n2 d], .slice b2 n2 d2] W (NBelIf (allFin (solV n2 (sq n2 Z) O (vals Y)) n2) n2 (solV n2 (sq n2 Z) O (vals Y)) W) := by
      intro a c b d b2 d2 W h h2 h3
      obtain ⟨ba, oa, rfl, _, _, _⟩ := h.at hpos
      obtain ⟨bb, ob, rfl, _, _, _⟩ := h2.at (show 0 < n2 by omega)
      obtain ⟨bc, oc, rfl, _, _, _⟩ := h3.at (show 0 < n2 by omega)
      exact specFSolve_yes n2 n ba oa c bb ob d bc oc d2 Z O Y W hf hft h h2 h3
    have hi : ∀ a c b d b2 d2 W, FS .f32 W a n c Z → IS .i64 W b n2 d O → FS .f32 W b2 n2 d2 Y → Calls Try.prog 51 #[.agg #[.int .i64 (n2 : Int), .int .i64 (n2 : Int), .slice a n c, .slice b n2 d], .slice b2 n2 d2] W (NOwnIf (allFin (solV n2 (sq n2 Z) O (vals Y)) n2) n2 (solV n2 (sq n2 Z) O (vals Y)) W) := by
      intro a c b d b2 d2 W h h2 h3
      obtain ⟨ba, oa, rfl, _, _, _⟩ := h.at hpos
      obtain ⟨bb, ob, rfl, _, _, _⟩ := h2.at (show 0 < n2 by omega)
      obtain ⟨bc, oc, rfl, _, _, _⟩ := h3.at (show 0 < n2 by omega)
      exact implSolve_yes n2 n ba oa c bb ob d bc oc d2 Z O Y W hf hft h h2 h3
    cases hk : allFin (solV n2 (sq n2 Z) O (vals Y)) n2 with
    | true =>
      rw [hk] at hs hi
      exact ⟨true, n2, solV n2 (sq n2 Z) O (vals Y), by omega, hs, hi⟩
    | false =>
      rw [hk] at hs hi
      exact ⟨false, 0, fun _ => none, by omega, hs, hi⟩
end Go.Proofs.Ytmddhhmgfhljiaa
