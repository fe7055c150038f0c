/- Helper: a number of a sparse square, of the reference, and of both. Conditions: none. -/
import Derived.Test.YtmjlhmbnaifhaabOpenSpec
set_option linter.unusedVariables false
set_option linter.unusedSimpArgs false
namespace Go.Proofs.Ytmjlhmbnaifhaab
open Go.RowKit

/-- The columns of all told numbers. -/
theorem cols_all {s n2 : Nat} {O K : Nat → Int} (h00 : O 0 = 0) (hOs : O s = (n2 : Int)) (hso : sortB O s = true) (hro : rowsB O K s s = true) : ∀ {j : Nat}, j ≤ s → ∀ t, t < (O j).toNat → 0 ≤ K t ∧ K t < (s : Int)
  | 0, _, t, ht => by rw [h00] at ht; exact absurd ht (Nat.not_lt_zero _)
  | j + 1, hj, t, ht => by
    obtain ⟨A, m, hA, hAm, hAn, hcol⟩ := sp_row h00 hOs hso hro (i := j) (by omega)
    by_cases e : t < A
    · exact cols_all h00 hOs hso hro (j := j) (by omega) t (by rw [hA, Int.toNat_natCast]; exact e)
    · rw [hAm, Int.toNat_natCast] at ht
      have := col_in (K := fun t => K (A + t)) hcol (t := t - A) (by omega)
      simp only [show A + (t - A) = t by omega] at this
      exact this
theorem rowAt_lt {O : Nat → Int} {t i : Nat} (hi : 0 < i) : ∀ {s : Nat}, (∀ r, i ≤ r → r ≤ s → (t : Int) < O r) → rowAt O t s < i
  | 0, _ => hi
  | s + 1, h => by
    show (if O (s + 1) ≤ (t : Int) then s + 1 else rowAt O t s) < i
    by_cases e : i ≤ s + 1
    · rw [if_neg (by have := h (s + 1) e (Nat.le_refl _); omega)]
      exact rowAt_lt hi fun r h1 h2 => h r h1 (by omega)
    · split
      · omega
      · exact rowAt_lt hi fun r h1 h2 => h r h1 (by omega)
theorem rowAt_ge {O : Nat → Int} {t i : Nat} (h : O i ≤ (t : Int)) : ∀ {s : Nat}, i ≤ s → i ≤ rowAt O t s
  | 0, hi => hi
  | s + 1, hi => by
    show i ≤ (if O (s + 1) ≤ (t : Int) then s + 1 else rowAt O t s)
    split
    · exact hi
    · by_cases e : i = s + 1
      · subst e; contradiction
      · exact rowAt_ge h (by omega)
theorem flat_ne {s r i k c : Nat} (hk : k < s) (hc : c < s) (h : r ≠ i) : i * s + c ≠ r * s + k := by
  intro e
  have e1 : (i * s + c) / s = i := by rw [Nat.mul_comm, Nat.mul_add_div (by omega), Nat.div_eq_of_lt hc]; rfl
  have e2 : (r * s + k) / s = r := by rw [Nat.mul_comm, Nat.mul_add_div (by omega), Nat.div_eq_of_lt hk]; rfl
  rw [e] at e1
  omega
/-- What lies at a place is the last number of its row in its column. -/
theorem putN_at {s n2 i A m c : Nat} {O K : Nat → Int} {Z D : Nat → Nat} (hD : ∀ t, D t = rowAt O t s * s + (K t).toNat) (h0 : O 0 = 0) (hs : O s = (n2 : Int)) (hso : sortB O s = true) (hr : rowsB O K s s = true) (hi : i < s) (hA : O i = (A : Int)) (hAm : O (i + 1) = ((A + m : Nat) : Int)) (hc : c < s)
    (hcol : ∀ t, t < n2 → 0 ≤ K t ∧ K t < (s : Int)) (q : Nat) (hq : q ≤ n2) : putN D Z q (i * s + c) = lastP K Z A c (min (q - A) m) := by
  induction q with
  | zero => rw [Nat.zero_sub, Nat.zero_min]; rfl
  | succ q ih =>
    have ih := ih (by omega)
    obtain ⟨k1, k2⟩ := hcol q (by omega)
    show (if i * s + c = D q then Z q else putN D Z q (i * s + c)) = _
    by_cases h1 : q < A
    · have hne : i * s + c ≠ D q := by
        rw [hD]
        refine flat_ne (by omega) hc (Nat.ne_of_lt (rowAt_lt ?_ fun r hr1 hr2 => ?_))
        · rcases Nat.eq_zero_or_pos i with e | e
          · subst e; rw [h0] at hA; omega
          · exact e
        · have := sortB_le hso (i := i) (d := r - i) (by omega)
          rw [show i + (r - i) = r by omega, hA] at this
          omega
      rw [if_neg hne, ih, show q - A = 0 by omega, show q + 1 - A = 0 by omega]
    · by_cases h2 : q < A + m
      · have hrow : rowAt O q s = i := by
          have := told_at hso hi hA hAm (t := q - A) (by omega)
          rw [show A + (q - A) = q by omega] at this
          exact this
        rw [show min (q + 1 - A) m = (q - A) + 1 by omega]
        show _ = (if K (A + (q - A)) = (c : Int) then Z (A + (q - A)) else lastP K Z A c (q - A))
        rw [show A + (q - A) = q by omega]
        by_cases e : K q = (c : Int)
        · rw [if_pos e, if_pos (by rw [hD, hrow, e, Int.toNat_natCast])]
        · rw [if_neg e, if_neg (by rw [hD, hrow]; omega), ih, show min (q - A) m = q - A by omega]
      · have hne : i * s + c ≠ D q := by
          rw [hD]
          have := rowAt_ge (O := O) (t := q) (i := i + 1) (by rw [hAm]; omega) (s := s) (by omega)
          exact flat_ne (by omega) hc (by omega)
        rw [if_neg hne, ih, show min (q - A) m = m by omega, show min (q + 1 - A) m = m by omega]
theorem in0_any (s : Nat) (x : Int) (w : World) (h1 : 1 ≤ s) (hs : s ≤ 32) : Calls Try.prog 40 #[.int .i64 x, .int .i64 0, .int .i64 ((s - 1 : Nat) : Int)] w fun e w' => e = .returned (.bool (inS s x)) ∧ w = w' := by
  obtain ⟨s1, rfl⟩ : ∃ s1, s = s1 + 1 := ⟨s - 1, by omega⟩
  rw [Nat.add_sub_cancel]
  unfold inS
  by_cases h0 : 0 ≤ x
  · have d3 : decide (0 ≤ x) = true := decide_eq_true h0
    by_cases hx : x < ((s1 + 1 : Nat) : Int)
    · have d4 : decide (x ≤ (s1 : Int)) = true := decide_eq_true (by omega)
      have d5 : decide (x < ((s1 + 1 : Nat) : Int)) = true := decide_eq_true hx
      rw [d3, d5]
      clear h0 hx
      go_enter Try.func40, Try.ntmps40
      go_wp2
      go_ret
      exact ⟨rfl, rfl⟩
    · have d4 : decide (x ≤ (s1 : Int)) = false := decide_eq_false (by omega)
      have d5 : decide (x < ((s1 + 1 : Nat) : Int)) = false := decide_eq_false hx
      rw [d3, d5]
      clear h0 hx
      go_enter Try.func40, Try.ntmps40
      go_wp2
      go_ret
      exact ⟨rfl, rfl⟩
  · have d3 : decide (0 ≤ x) = false := decide_eq_false h0
    rw [d3]
    clear h0
    go_enter Try.func40, Try.ntmps40
    go_wp2
    go_ret
    exact ⟨rfl, rfl⟩
theorem specAt_no (S i k : Int) (a1 a2 a3 : Option Addr) (n1 c1 n2 c2 n3 c3 : Nat) (O K : Nat → Int) (Z : Nat → Nat) (w : World) (hn1 : n1 ≤ 1048576) (hn2 : n2 ≤ 1048576) (hn3 : n3 ≤ 1048576) (h1 : IS .i64 w a1 n1 c1 O) (h2 : IS .i64 w a2 n2 c2 K) (h3 : FS .f32 w a3 n3 c3 Z) (hno : atB S n1 n2 n3 O K (vals Z) i k = false) :
    Calls Try.prog 10 #[.agg #[.int .i64 S, .slice a1 n1 c1, .slice a2 n2 c2, .slice a3 n3 c3], .int .i64 i, .int .i64 k] w (NumBel false (some 0) w) := by
  have B0 : Below w.heap.size w (w.alloc (.cells #[.int .i64 S, .slice a1 n1 c1, .slice a2 n2 c2, .slice a3 n3 c3] 30)) := (by repeat first | (with_reducible exact Below.refl _ _) | (with_reducible refine Below.setCell ?_ (by first | exact Nat.le_refl _ | (simp; done) | (simp; omega) | omega) _) | (with_reducible refine Below.alloc ?_ (by first | exact Nat.le_refl _ | (simp; done) | (simp; omega) | omega) _) | (with_reducible refine below_drewN ?_ _) | (with_reducible refine Below.drew ?_))
  have X0 : BoxL (w.alloc (.cells #[.int .i64 S, .slice a1 n1 c1, .slice a2 n2 c2, .slice a3 n3 c3] 30)) w.heap.size [.int .i64 S, .slice a1 n1 c1, .slice a2 n2 c2, .slice a3 n3 c3] := BoxL.four (by simp [go_sem]) (by simp [go_sem]) (by simp [go_sem]) (by simp [go_sem])
  have HNO := Lib.hid hno
  clear hno
  go_enter Try.func10, Try.ntmps10
  go_wp2_with fail
  go_at_call 39
  refine (specSp_any _ S a1 a2 a3 n1 c1 n2 c2 n3 c3 O K Z _ hn1 hn2 hn3 (by simp) X0 (h1.below B0 (Nat.le_refl _)) (h2.below B0 (Nat.le_refl _)) (h3.below B0 (Nat.le_refl _))).mono ?_
  rintro e w1 ⟨rfl, b1⟩
  have B1 := B0.trans (b1.mono B0.size)
  have y0 := X0.below b1 (by simp) 0 _ rfl
  clear X0 B0 b1
  have fin : ∀ e, e = Ending.returned (.tuple #[.float .f32 0, .bool false]) → NumBel false (some 0) w e w1 := fun e he => ⟨0, he, FV.lit (by kernel_rfl) (by kernel_rfl), B1⟩
  cases hs : spB S n1 n2 n3 O K (vals Z) with
  | false =>
    clear hs
    go_wp2_with fail
    go_ret2
    exact fin _ rfl
  | true =>
    obtain ⟨s, rfl, q1, q2, _⟩ := sp_nat hs
    have hsub : IntKind.i64.wrap ((s : Int) - 1) = ((s - 1 : Nat) : Int) := by
      have e : (s : Int) - 1 = ((s - 1 : Nat) : Int) := by omega
      rw [e]; exact IntWalk.i64_in _ (by omega)
    cases hi : inS s i with
    | false =>
      clear hs
      go_wp2_with fail
      go_at_call 40
      refine (in0_any s i _ q1 q2).mono ?_
      rw [hi]
      rintro e w' ⟨rfl, rfl⟩
      clear hi
      go_wp2_with fail
      go_ret2
      exact fin _ rfl
    | true =>
      have hk : inS s k = false := by
        have hno := HNO.out
        unfold atB at hno
        rw [hs, Int.toNat_natCast, hi] at hno
        simpa using hno
      clear hs
      go_wp2_with fail
      go_at_call 40
      refine (in0_any s i _ q1 q2).mono ?_
      rw [hi]
      rintro e w' ⟨rfl, rfl⟩
      clear hi
      go_wp2_with fail
      go_at_call 40
      refine (in0_any s k _ q1 q2).mono ?_
      rw [hk]
      rintro e w' ⟨rfl, rfl⟩
      clear hk
      go_wp2_with fail
      go_ret2
      exact fin _ rfl
set_option maxHeartbeats 1000000 in
theorem specAt_yes (s A m n1 n2 b1 o1 c1 c2 c3 i cl : Nat) (a2 a3 : Option Addr) (O K : Nat → Int) (Z : Nat → Nat) (w : World) (hs1 : 1 ≤ s) (hs : s ≤ 32) (hn1 : n1 = s + 1) (hi : i < s) (hc : cl < s) (hO : O i = (A : Int)) (hO1 : O (i + 1) = ((A + m : Nat) : Int)) (hE : A + m ≤ n2) (hn2 : n2 ≤ 512) (h00 : O 0 = 0) (hOs : O s = (n2 : Int)) (hso : sortB O s = true) (hro : rowsB O K s s = true) (hfin : ∀ t, t < n2 → 0 ≤ K t ∧ K t < (s : Int)) (hok : spB s n1 n2 n2 O K (vals Z) = true)
    (h1 : IS .i64 w (some ⟨b1, o1, none⟩) n1 c1 O) (h2 : IS .i64 w a2 n2 c2 K) (h3 : FS .f32 w a3 n2 c3 Z) :
    Calls Try.prog 10 #[.agg #[.int .i64 (s : Int), .slice (some ⟨b1, o1, none⟩) n1 c1, .slice a2 n2 c2, .slice a3 n2 c3], .int .i64 (i : Int), .int .i64 (cl : Int)] w (NumBel true (cn .f32 (lastP K Z A cl m)) w) := by
  have B0 : Below w.heap.size w (w.alloc (.cells #[.int .i64 (s : Int), .slice (some ⟨b1, o1, none⟩) n1 c1, .slice a2 n2 c2, .slice a3 n2 c3] 30)) := (by repeat first | (with_reducible exact Below.refl _ _) | (with_reducible refine Below.setCell ?_ (by first | exact Nat.le_refl _ | (simp; done) | (simp; omega) | omega) _) | (with_reducible refine Below.alloc ?_ (by first | exact Nat.le_refl _ | (simp; done) | (simp; omega) | omega) _) | (with_reducible refine below_drewN ?_ _) | (with_reducible refine Below.drew ?_))
  have X0 : BoxL (w.alloc (.cells #[.int .i64 (s : Int), .slice (some ⟨b1, o1, none⟩) n1 c1, .slice a2 n2 c2, .slice a3 n2 c3] 30)) w.heap.size [.int .i64 (s : Int), .slice (some ⟨b1, o1, none⟩) n1 c1, .slice a2 n2 c2, .slice a3 n2 c3] := BoxL.four (by simp [go_sem]) (by simp [go_sem]) (by simp [go_sem]) (by simp [go_sem])
  obtain ⟨D, hD⟩ : ∃ D : Nat → Nat, ∀ t, D t = rowAt O t s * s + (K t).toNat := ⟨_, fun _ => rfl⟩
  obtain ⟨N, hN⟩ : ∃ N, N = s * s := ⟨_, rfl⟩
  obtain ⟨P, hP⟩ : ∃ P, P = i * s + cl := ⟨_, rfl⟩
  have hPN : P < N := by
    rw [hP, hN]
    exact Nat.lt_of_lt_of_le (Nat.add_lt_add_left hc _) (by rw [← Nat.succ_mul]; exact Nat.mul_le_mul_right _ hi)
  have hN4 : N ≤ 1024 := by rw [hN]; exact Nat.mul_le_mul hs hs
  have HV : Hid (putN D Z n2 P = lastP K Z A cl m) := Lib.hid (by
    rw [hP, putN_at hD h00 hOs hso hro hi hO hO1 hc hfin n2 (Nat.le_refl _), show min (n2 - A) m = m by omega])
  have HF : Hid (FV .f32 (lastP K Z A cl m) (cn .f32 (lastP K Z A cl m))) := Lib.hid (by
    have : ∀ q, q ≤ m → FV .f32 (lastP K Z A cl q) (cn .f32 (lastP K Z A cl q)) := by
      intro q
      induction q with
      | zero => intro _; exact FV.of_eq (FV.lit (by kernel_rfl) (by kernel_rfl)) (show (some 0 : Option Nat) = cn .f32 0 by kernel_rfl)
      | succ q ih =>
        intro hq
        show FV .f32 (if K (A + q) = (cl : Int) then Z (A + q) else lastP K Z A cl q) _
        rw [show lastP K Z A cl (q + 1) = (if K (A + q) = (cl : Int) then Z (A + q) else lastP K Z A cl q) from rfl]
        split
        · exact (h3.at (show A + q < n2 by omega)).elim fun _ q => q.elim fun _ q => q.2.2.2
        · exact ih (by omega)
    exact this m (Nat.le_refl _))
  have HOP := fun (W : World) (hb : Below w.heap.size w W) (p0 : Nat) (hp : p0 < W.heap.size) (hX : BoxL W p0 _) => l05Open_any p0 s N n1 n2 b1 o1 c1 c2 c3 a2 a3 O K Z D W hD hs1 hs hN hn1 hn2 h00 hOs hso hro hp hX (h1.below hb (Nat.le_refl _)) (h2.below hb (Nat.le_refl _)) (h3.below hb (Nat.le_refl _))
  have hw1 : IntKind.i64.wrap ((i : Int) * (s : Int)) = ((i * s : Nat) : Int) := by
    rw [← Int.natCast_mul]; exact IntWalk.i64_in _ (by omega)
  have hw2 : IntKind.i64.wrap (((i * s : Nat) : Int) + (cl : Int)) = (P : Int) := by
    rw [← Int.natCast_add, ← hP]; exact IntWalk.i64_in _ (by omega)
  have hsub : IntKind.i64.wrap ((s : Int) - 1) = ((s - 1 : Nat) : Int) := by
    have e : (s : Int) - 1 = ((s - 1 : Nat) : Int) := by omega
    rw [e]; exact IntWalk.i64_in _ (by omega)
  have HI1 : Hid (inS s (i : Int) = true) := Lib.hid (by unfold inS; rw [decide_eq_true (by omega), decide_eq_true (by omega)]; rfl)
  have HI2 : Hid (inS s (cl : Int) = true) := Lib.hid (by unfold inS; rw [decide_eq_true (by omega), decide_eq_true (by omega)]; rfl)
  have HOK := Lib.hid hok
  have hn1b : n1 ≤ 1048576 := by omega
  generalize i * s = is at hw1 hw2
  clear hN hP hD h00 hOs hso hro hO hO1 hok hfin hn1 hi hc
  go_enter Try.func10, Try.ntmps10
  go_wp2_with fail
  go_at_call 39
  refine (specSp_any _ s _ a2 a3 n1 c1 n2 c2 n2 c3 O K Z _ hn1b (by omega) (by omega) (by simp) X0 (h1.below B0 (Nat.le_refl _)) (h2.below B0 (Nat.le_refl _)) (h3.below B0 (Nat.le_refl _))).mono ?_
  rw [HOK.out]
  rintro e w1 ⟨rfl, b1⟩
  have B1 := B0.trans (b1.mono B0.size)
  have X1 := X0.below b1 (by simp)
  have s1 : w.heap.size < w1.heap.size := by have := b1.size; simp at this; omega
  have y0 := X1 0 _ rfl
  clear X0 B0 b1
  go_wp2_with fail
  go_at_call 40
  refine (in0_any s (i : Int) _ hs1 hs).mono ?_
  rw [HI1.out]
  rintro e w' ⟨rfl, rfl⟩
  go_wp2_with fail
  go_at_call 40
  refine (in0_any s (cl : Int) _ hs1 hs).mono ?_
  rw [HI2.out]
  rintro e w' ⟨rfl, rfl⟩
  go_wp2_with fail
  go_at_call 41
  refine (HOP _ B1 w.heap.size s1 X1).mono ?_
  rintro e w2 ⟨gt, gn, rfl, _, hgn, _, _, hnum, b2⟩
  have B2 := B1.trans (b2.mono B1.size)
  have X2 := X1.below b2 s1
  have z0 := X2 0 _ rfl
  have cv := hnum.cell hPN
  simp only [HV.out] at cv
  have hgl := hnum.lt
  have s2 : w.heap.size < w2.heap.size := Nat.lt_of_lt_of_le s1 b2.size
  generalize hr : lastP K Z A cl m = r at cv HF
  have HR := Lib.hid hr
  clear hr y0 X1 X2 HOP hnum b2 HV
  go_wp2_with fail
  go_ret2
  exact ⟨r, rfl, by rw [HR.out]; exact HF.out, (by repeat first | (with_reducible exact B2) | (with_reducible refine Below.setCell ?_ (by first | exact Nat.le_refl _ | (simp; done) | (simp; omega) | omega) _) | (with_reducible refine Below.alloc ?_ (by first | exact Nat.le_refl _ | (simp; done) | (simp; omega) | omega) _) | (with_reducible refine below_drewN ?_ _) | (with_reducible refine Below.drew ?_))⟩
theorem keySparseAt (S : Int) (n1 : Nat) (O : Nat → Int) (n2 : Nat) (K : Nat → Int) (n3 : Nat) (Z : Nat → Nat) (i k : Int) (wS : (Lit.int .i64 S).wf = true) (hn1 : n1 ≤ 1048576) (hn2 : n2 ≤ 1048576) (hn3 : n3 ≤ 1048576) (wi : (Lit.int .i64 i).wf = true) (wk : (Lit.int .i64 k).wf = true) : ∃ (ok : Bool) (X : Option Nat),
    (∀ a1 c1 a2 c2 a3 c3 W, IS .i64 W a1 n1 c1 O → IS .i64 W a2 n2 c2 K → FS .f32 W a3 n3 c3 Z → Calls Try.prog 10 #[.agg #[.int .i64 S, .slice a1 n1 c1, .slice a2 n2 c2, .slice a3 n3 c3], .int .i64 i, .int .i64 k] W (NumBel ok X W)) ∧
    (∀ a1 c1 a2 c2 a3 c3 W, IS .i64 W a1 n1 c1 O → IS .i64 W a2 n2 c2 K → FS .f32 W a3 n3 c3 Z → Calls Try.prog 12 #[.agg #[.int .i64 S, .slice a1 n1 c1, .slice a2 n2 c2, .slice a3 n3 c3], .int .i64 i, .int .i64 k] W (NumBel ok X W)) := by
  cases hh : atB S n1 n2 n3 O K (vals Z) i k with
  | false => exact ⟨false, some 0, fun a1 c1 a2 c2 a3 c3 W h1 h2 h3 => specAt_no S i k a1 a2 a3 n1 c1 n2 c2 n3 c3 O K Z W hn1 hn2 hn3 h1 h2 h3 hh, fun a1 c1 a2 c2 a3 c3 W h1 h2 h3 => implAt_no S i k a1 a2 a3 n1 c1 n2 c2 n3 c3 O K Z W hn1 hn2 hn3 h1 h2 h3 hh⟩
  | true =>
    have hb := hh
    unfold atB at hb
    rw [Bool.and_eq_true, Bool.and_eq_true] at hb
    obtain ⟨hok, hb1, hb2⟩ := hb
    obtain ⟨s, rfl, q1, q2, q3, q4, rfl, _, q7, q8, q9, q10⟩ := sp_nat hok
    rw [Int.toNat_natCast] at hb1 hb2
    have hk2 := hb2
    unfold inS at hb1 hb2
    rw [Bool.and_eq_true, decide_eq_true_eq, decide_eq_true_eq] at hb1 hb2
    obtain ⟨j, rfl⟩ : ∃ j : Nat, i = (j : Int) := ⟨i.toNat, by omega⟩
    obtain ⟨cl, rfl⟩ : ∃ cl : Nat, k = (cl : Int) := ⟨k.toNat, by omega⟩
    obtain ⟨A, m, hA, hAm, hAn, hcol⟩ := sp_row q7 q8 q9 q10 (i := j) (by omega)
    have hfin := fun t (ht : t < n3) => cols_all q7 q8 q9 q10 (j := s) (Nat.le_refl _) t (by rw [q8, Int.toNat_natCast]; exact ht)
    refine ⟨true, cn .f32 (lastP K Z A cl m), fun a1 c1 a2 c2 a3 c3 W h1 h2 h3 => ?_, fun a1 c1 a2 c2 a3 c3 W h1 h2 h3 => ?_⟩
    · obtain ⟨b1, o1, rfl, _⟩ := h1.at (show 0 < n1 by omega)
      exact specAt_yes s A m n1 n3 b1 o1 c1 c2 c3 j cl a2 a3 O K Z W q1 q2 q3 (by omega) (by omega) hA hAm hAn q4 q7 q8 q9 q10 hfin hok h1 h2 h3
    · obtain ⟨b1, o1, rfl, _⟩ := h1.at (show 0 < n1 by omega)
      exact implAt_yes s A m n1 n3 b1 o1 c1 c2 c3 j cl a2 a3 O K Z W q1 q2 hn1 (by omega) (by omega) hA hAm hAn q4 hcol hk2 hok h1 h2 h3
end Go.Proofs.Ytmjlhmbnaifhaab
