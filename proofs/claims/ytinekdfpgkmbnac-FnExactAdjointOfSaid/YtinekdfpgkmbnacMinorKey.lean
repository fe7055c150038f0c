/- Helper: determinants of some rows and columns, of the program and of its reference. Conditions: none. -/
import Derived.Test.YtinekdfpgkmbnacValidWholeKey
import Derived.Test.YtinekdfpgkmbnacIntList
set_option linter.unusedVariables false
set_option linter.unusedSimpArgs false
set_option pp.deepTerms true
set_option pp.maxSteps 100000
namespace Go.Proofs.Ytinekdfpgkmbnac
open Go.RowKit

def sgn : Nat → Int
  | 0 => 1
  | k + 1 => -(sgn k)
def sumTo (f : Nat → Int) : Nat → Int
  | 0 => 0
  | k + 1 => sumTo f k + f k
def withoutN (K : Nat → Nat) (k t : Nat) : Nat := if t < k then K t else K (t + 1)
/-- The determinant of m rows R and as many columns K. -/
def minI (Z : Nat → Int) (C : Nat) : Nat → (Nat → Nat) → (Nat → Nat) → Int
  | 0, _, _ => 1
  | m + 1, R, K => sumTo (fun k => sgn k * Z (R 0 * C + K k) * minI Z C m (fun t => R (1 + t)) (withoutN K k)) (m + 1)
/-- What it is at most. -/
def bn : Nat → Nat
  | 0 => 1
  | m + 1 => (m + 1) * (100 * bn m)
theorem bn_le : ∀ m, m ≤ 6 → bn m ≤ 720000000000000
  | 0, _ => by decide
  | 1, _ => by decide
  | 2, _ => by decide
  | 3, _ => by decide
  | 4, _ => by decide
  | 5, _ => by decide
  | 6, _ => by decide
  | m + 7, h => by omega
theorem bn_step (m : Nat) (hm : m < 6) : 6 * (100 * bn m) ≤ 4320000000000000 := by
  have : bn m ≤ 720000000000000 / 100 := by
    match m, hm with
    | 0, _ => decide
    | 1, _ => decide
    | 2, _ => decide
    | 3, _ => decide
    | 4, _ => decide
    | 5, _ => decide
    | m + 6, h => omega
  omega
theorem sgn_abs : ∀ k, (sgn k).natAbs = 1
  | 0 => rfl
  | k + 1 => by simp only [sgn, Int.natAbs_neg]; exact sgn_abs k
theorem sgn_le (k : Nat) : -1 ≤ sgn k ∧ sgn k ≤ 1 := by have := sgn_abs k; omega
theorem sumTo_abs {f : Nat → Int} {n B : Nat} (h : ∀ k, k < n → (f k).natAbs ≤ B) : ∀ k, k ≤ n → (sumTo f k).natAbs ≤ k * B
  | 0, _ => by simp [sumTo]
  | k + 1, hk => by
    have ih := sumTo_abs h k (by omega)
    have h1 := h k (by omega)
    have h2 := Int.natAbs_add_le (sumTo f k) (f k)
    rw [Nat.add_mul, Nat.one_mul]
    simp only [sumTo]
    omega
theorem term_abs {s x y : Int} {B : Nat} (hs : s.natAbs = 1) (hx : x.natAbs ≤ 100) (hy : y.natAbs ≤ B) : (s * x * y).natAbs ≤ 100 * B := by
  rw [Int.natAbs_mul, Int.natAbs_mul, hs, Nat.one_mul]
  exact Nat.mul_le_mul hx hy
theorem place_in {r c i k : Nat} (hi : i < r) (hk : k < c) : i * c + k < r * c := by
  have h1 : (i + 1) * c ≤ r * c := Nat.mul_le_mul_right c hi
  rw [Nat.add_mul, Nat.one_mul] at h1
  omega
theorem withoutN_lt {K : Nat → Nat} {k m c : Nat} (h : ∀ t, t < m + 1 → K t < c) : ∀ t, t < m → withoutN K k t < c := by
  intro t ht
  unfold withoutN
  split
  · exact h _ (by omega)
  · exact h _ (by omega)
theorem minI_abs {Z : Nat → Int} {r C n : Nat} (hn : n = r * C) (hZ : ∀ i, i < n → (Z i).natAbs ≤ 100) : ∀ (m : Nat) (R K : Nat → Nat), (∀ t, t < m → R t < r) → (∀ t, t < m → K t < C) → (minI Z C m R K).natAbs ≤ bn m
  | 0, R, K, _, _ => by simp [minI, bn]
  | m + 1, R, K, hR, hK => by
    have h := sumTo_abs (f := fun k => sgn k * Z (R 0 * C + K k) * minI Z C m (fun t => R (1 + t)) (withoutN K k)) (n := m + 1) (B := 100 * bn m) (fun k hk =>
      term_abs (sgn_abs k) (hZ _ (by rw [hn]; exact place_in (hR 0 (by omega)) (hK k hk))) (minI_abs hn hZ m _ _ (fun t ht => hR (1 + t) (by omega)) (withoutN_lt hK))) (m + 1) (Nat.le_refl _)
    exact h
theorem cast_without (K : Nat → Nat) (k : Nat) : without (fun t => ((K t : Nat) : Int)) k = fun t => ((withoutN K k t : Nat) : Int) := by
  funext t
  unfold without withoutN
  split <;> rfl
theorem heldB {w0 W w' : World} (hs : Below w0.heap.size w0 W) (hb : Below W.heap.size W w') : Below w0.heap.size w0 w' := hs.trans (hb.mono hs.size)

theorem l06At_any (p b off r c n cap i k : Nat) (Z : Nat → Int) (w : World) (hr : r ≤ 6) (hc : c ≤ 6) (hn : n = r * c) (hb : Box w p r c (some ⟨b, off, none⟩) n cap) (h : IS .i64 w (some ⟨b, off, none⟩) n cap Z) (hi : i < r) (hk : k < c) :
    Calls Try.prog 51 #[.pointer (some ⟨p, 0, none⟩), .int .i64 i, .int .i64 k] w fun e w' => e = .returned (.int .i64 (Z (i * c + k))) ∧ ∃ m, w' = w.drewN m := by
  obtain ⟨hb0, hb1, hb2⟩ := hb
  have h1 := place_in hi hk
  have h2 : r * c ≤ 6 * 6 := Nat.mul_le_mul hr hc
  have h3 : i * c + k < n := by omega
  have h4 : n ≤ 36 := by omega
  obtain ⟨b', off', e, hbl, hce, hfv⟩ := h.at h3
  simp only [Option.some.injEq, Addr.mk.injEq, and_true] at e
  obtain ⟨rfl, rfl⟩ := e
  have he : ((i : Int) * (c : Int) + (k : Int)) = ((i * c + k : Nat) : Int) := by rw [Int.natCast_add, Int.natCast_mul]
  have ht : ((i : Int) * (c : Int) + (k : Int)).toNat = i * c + k := by rw [he]; exact Int.toNat_natCast _
  have hlt : (i : Int) * (c : Int) + (k : Int) < (n : Int) := by rw [he]; omega
  have h0 : (0 : Int) ≤ (i : Int) * (c : Int) := by rw [← Int.natCast_mul]; omega
  have h00 : (i : Int) * (c : Int) ≤ 36 := by omega
  have hw1 : IntKind.i64.wrap ((i : Int) * (c : Int)) = (i : Int) * (c : Int) := IntWalk.i64_in _ (by omega)
  have hw2 : IntKind.i64.wrap ((i : Int) * (c : Int) + (k : Int)) = (i : Int) * (c : Int) + (k : Int) := IntWalk.i64_in _ (by omega)
  clear hn h1 h2 he hfv hbl h
  go_enter Try.func51, Try.ntmps51
  go_wp2
  go_quiet (fail)
  go_wp2
  go_ret
  exact ⟨rfl, _, rfl⟩
set_option maxRecDepth 20000 in
set_option maxHeartbeats 4000000 in
theorem specMinor_any (b ab ao r c n cap : Nat) (Z : Nat → Int) (hr : r ≤ 6) (hc : c ≤ 6) (hn : n = r * c) (hZ : ∀ i, i < n → (Z i).natAbs ≤ 100) : ∀ (m : Nat), m ≤ 6 → ∀ (ra ka : Option Addr) (rc kc : Nat) (R K : Nat → Nat) (w : World), b < w.heap.size →
    Box w b r c (some ⟨ab, ao, none⟩) n cap → IS .i64 w (some ⟨ab, ao, none⟩) n cap Z → IS .i64 w ra m rc (fun t => ((R t : Nat) : Int)) → IS .i64 w ka m kc (fun t => ((K t : Nat) : Int)) → (∀ t, t < m → R t < r) → (∀ t, t < m → K t < c) →
    Calls Try.prog 32 #[.pointer (some ⟨b, 0, none⟩), .slice ra m rc, .slice ka m kc] w fun e w' => e = .returned (.int .i64 (minI Z c m R K)) ∧ Below w.heap.size w w' := by
  intro m
  induction m with
  | zero =>
    intro _ ra ka rc kc R K w _ _ _ _ _ _ _
    go_enter Try.func32, Try.ntmps32
    go_wp2_with fail
    go_ret
    exact ⟨rfl, Below.refl _ _⟩
  | succ m ih =>
    intro hm ra ka rc kc R K w hbl hB hI hRl hKl hR hK
    obtain ⟨rb, ro, rfl, hrb, hrc0, _⟩ := hRl.at (show 0 < m + 1 by omega)
    obtain ⟨kb, ko, rfl, hkb, _, _⟩ := hKl.at (show 0 < m + 1 by omega)
    have hrcap := hRl.1
    have hrmx : rc ≤ 9223372036854775807 := by have := hRl.2.1; unfold maxLen at this; omega
    have hkcap := hKl.1
    have hkmx : kc ≤ 9223372036854775807 := by have := hKl.2.1; unfold maxLen at this; omega
    obtain ⟨F, hF⟩ : ∃ F : Nat → Int, F = fun k => sgn k * Z (R 0 * c + K k) * minI Z c m (fun t => R (1 + t)) (withoutN K k) := ⟨_, rfl⟩
    have hmin : Hid (minI Z c (m + 1) R K = sumTo F (m + 1)) := Lib.hid (by rw [hF]; rfl)
    have hFk : Hid (∀ k, F k = sgn k * Z (R 0 * c + K k) * minI Z c m (fun t => R (1 + t)) (withoutN K k)) := Lib.hid (fun k => by rw [hF])
    have hFB : Hid (∀ k, k < m + 1 → (F k).natAbs ≤ 100 * bn m) := Lib.hid (fun k hk => by
      rw [hF]
      exact term_abs (sgn_abs k) (hZ _ (by rw [hn]; exact place_in (hR 0 (by omega)) (hK k hk))) (minI_abs hn hZ m _ _ (fun t ht => hR (1 + t) (by omega)) (withoutN_lt hK)))
    have hbn := bn_step m (by omega)
    have hbn2 := bn_le m (by omega)
    clear hF
    obtain ⟨A, hA, hsub⟩ : ∃ A : Option Addr, (if rc = 1 then some (⟨rb, ro, none⟩ : Addr) else some ⟨rb, ro + 1, none⟩) = A ∧ Hid (∀ W, IS .i64 W (some ⟨rb, ro, none⟩) (m + 1) rc (fun t => ((R t : Nat) : Int)) → IS .i64 W A m (rc - 1) (fun t => ((R (1 + t) : Nat) : Int))) :=
      ⟨_, rfl, Lib.hid fun W hW => IS.sub (k := 1) hW (by omega) (fun e => if_neg e)⟩
    have HI := Lib.hid hI
    have HB := Lib.hid hB
    have HR := Lib.hid hRl
    have HK := Lib.hid hKl
    have LR := Lib.hid hR
    have LK := Lib.hid hK
    have HZ := Lib.hid hZ
    have HN := Lib.hid hn
    have IH := Lib.hid (ih (by omega))
    clear hI hB hRl hKl hR hK hZ hn ih
    simp only [Nat.add_zero] at hrc0
    have hr0 := LR.out 0 (by omega)
    have hrw : Hid (w.cell? ⟨rb, ro, none⟩ = some (.int .i64 ((R 0 : Nat) : Int))) := Lib.hid hrc0
    clear hrc0
    generalize hi0 : R 0 = i0 at hrw hr0
    have HI0 := Lib.hid hi0
    clear hi0
    generalize hM : m + 1 = M at *
    have hm1 : m + 1 ≤ M := by omega
    have hm2 : M ≤ m + 1 := by omega
    have HM := Lib.hid hM
    clear hM
    have hm3 : (1 : Int) ≤ (M : Int) := by omega
    have hm4 : 1 ≤ M := by omega
    have hm5 : ((M : Int) == 0) = false := beq_eq_false_iff_ne.2 (by omega)
    have hm6 : (M == 0) = false := beq_eq_false_iff_ne.2 (by omega)
    go_enter Try.func32, Try.ntmps32
    go_wp2_with fail
    go_loopw [7, 8, 9] (fun s g i wr => ∃ k : Nat, k ≤ M ∧ i = .int .i64 k ∧ g = .int .i64 (sgn k) ∧ s = .int .i64 (sumTo F k) ∧ Below w.heap.size w wr) (fun _ _ i _ => M - (intOf i).toNat)
    case atStart => exact ⟨0, Nat.zero_le _, rfl, rfl, rfl, Below.refl _ _⟩
    case round =>
      obtain ⟨k, hk, rfl, rfl, rfl, hb⟩ := hrel
      have hs1 := sgn_le k
      have hs2 := sgn_abs k
      have hsum := sumTo_abs hFB.out k hk
      have hkB : k * (100 * bn m) ≤ 6 * (100 * bn m) := Nat.mul_le_mul_right _ (by omega)
      have HBEL := Lib.hid hb
      by_cases hlt : k < M
      · have hd : decide ((k : Int) < (M : Int)) = true := decide_eq_true (by omega)
        have hkk := LK.out k hlt
        have hrcell : wr.cell? ⟨rb, ro, none⟩ = some (.int .i64 ((i0 : Nat) : Int)) := (hb.cell (p := ⟨rb, ro, none⟩) hrb).trans hrw.out
        obtain ⟨kb', ko', e, _, hkc0, _⟩ := (HK.out.below hb (Nat.le_refl _)).at hlt
        simp only [Option.some.injEq, Addr.mk.injEq, and_true] at e
        obtain ⟨rfl, rfl⟩ := e
        have hAt : ∀ q, Calls Try.prog 51 #[.pointer (some ⟨b, 0, none⟩), .int .i64 i0, .int .i64 ((K k : Nat) : Int)] (wr.drewN q) fun e w' => e = .returned (.int .i64 (Z (i0 * c + K k))) ∧ ∃ q2, w' = (wr.drewN q).drewN q2 := fun q =>
          l06At_any b ab ao r c n cap i0 (K k) Z _ hr hc HN.out ((HB.out.below hb hbl).drewN) ((HI.out.below hb (Nat.le_refl _)).drewN) hr0 hkk
        have hx100 := HZ.out (i0 * c + K k) (by rw [HN.out]; exact place_in hr0 hkk)
        have hstep : Hid (sumTo F (k + 1) = sumTo F k + sgn k * Z (i0 * c + K k) * minI Z c m (fun t => R (1 + t)) (withoutN K k)) := Lib.hid (by
          show sumTo F k + F k = _
          rw [hFk.out, HI0.out])
        have hfin := sumTo_abs hFB.out (k + 1) hlt
        have hkB2 : (k + 1) * (100 * bn m) ≤ 6 * (100 * bn m) := Nat.mul_le_mul_right _ (by omega)
        have hyB := minI_abs HN.out HZ.out m (fun t => R (1 + t)) (withoutN K k) (fun t ht => LR.out (1 + t) (by omega)) (withoutN_lt (fun t ht => LK.out t (by omega)))
        have hIH : ∀ W ca cc, Below wr.heap.size wr W → IS .i64 W ca (M - 1) cc (without (fun t => ((K t : Nat) : Int)) k) → Calls Try.prog 32 #[.pointer (some ⟨b, 0, none⟩), .slice A (M - 1) (rc - 1), .slice ca (M - 1) cc] W fun e w' => e = .returned (.int .i64 (minI Z c m (fun t => R (1 + t)) (withoutN K k))) ∧ Below W.heap.size W w' := by
          intro W ca cc hW hI
          have hb2 := hb.trans (hW.mono hb.size)
          rw [cast_without] at hI
          have e : M - 1 = m := by omega
          rw [e] at hI ⊢
          exact IH.out A ca (rc - 1) cc (fun t => R (1 + t)) (withoutN K k) W (Nat.lt_of_lt_of_le hbl hb2.size) (HB.out.below hb2 hbl) (HI.out.below hb2 (Nat.le_refl _)) (hsub.out W (HR.out.below hb2 (Nat.le_refl _))) hI (fun t ht => LR.out (1 + t) (by omega)) (withoutN_lt (fun t ht => LK.out t (by omega)))
        have hWO : ∀ W, Below wr.heap.size wr W → Calls Try.prog 41 #[.slice (some ⟨kb, ko, none⟩) M kc, .int .i64 k] W (ListNew W (M - 1) (without (fun t => ((K t : Nat) : Int)) k)) := by
          intro W hW
          have hb2 := hb.trans (hW.mono hb.size)
          exact specWithout_any kb ko M kc k (fun t => ((K t : Nat) : Int)) W hlt (by omega) (HK.out.below hb2 (Nat.le_refl _))
        clear hb
        generalize Z (i0 * c + K k) = x at hAt hx100 hstep
        generalize minI Z c m (fun t => R (1 + t)) (withoutN K k) = y at hIH hstep hyB
        rw [hstep.out] at hfin
        generalize hS0 : sumTo F k = S0 at hsum hstep hfin
        generalize hg0 : sgn k = g0 at hs1 hs2 hstep hfin
        have HG : Hid (sgn (k + 1) = -g0) := Lib.hid (by rw [← hg0]; rfl)
        clear hS0 hg0
        generalize ((K k : Nat) : Int) = kv at hkc0 hAt
        have hgx : (g0 * x).natAbs ≤ 100 := by rw [Int.natAbs_mul, hs2]; omega
        have hgxy := term_abs hs2 hx100 hyB
        have e1 : -100 ≤ g0 * x ∧ g0 * x ≤ 100 := by omega
        have e2 : -4320000000000000 ≤ g0 * x * y ∧ g0 * x * y ≤ 4320000000000000 := by omega
        have e3 : -4320000000000000 ≤ S0 + g0 * x * y ∧ S0 + g0 * x * y ≤ 4320000000000000 := by omega
        have hw1 : IntKind.i64.wrap (g0 * x) = g0 * x := IntWalk.i64_in _ (by omega)
        have hw2 : IntKind.i64.wrap (g0 * x * y) = g0 * x * y := IntWalk.i64_in _ (by omega)
        have hw3 : IntKind.i64.wrap (S0 + g0 * x * y) = S0 + g0 * x * y := IntWalk.i64_in _ (by omega)
        have hw4 : IntKind.i64.wrap (-g0) = -g0 := IntWalk.i64_in _ (by omega)
        clear hsum hfin hkB hkB2 hyB hgx hgxy hs2 hx100
        go_wp2_with fail
        go_quiet ((go_at_call 51; exact Calls.quiet_of (hAt _)))
        by_cases hx0 : x = 0
        · have hne : (x != 0) = false := by rw [hx0]; rfl
          have hST : Hid (sumTo F (k + 1) = S0) := Lib.hid (by rw [hstep.out, hx0, Int.mul_zero, Int.zero_mul, Int.add_zero])
          clear hw1 hw2 hw3 e1 e2 e3
          subst hx0
          go_wp2_with fail
          go_roundw
          case rel => exact ⟨k + 1, by omega, by go_num, by rw [HG.out], by rw [hST.out], below_drewN HBEL.out _⟩
          case measure => simp [intOf]; omega
        · have hne : (x != 0) = true := bne_iff_ne.2 hx0
          have hne2 : (x == 0) = false := beq_eq_false_iff_ne.2 hx0
          go_wp2_with fail
          generalize hwq : wr.drewN _ = wq
          have bq : Below wr.heap.size wr wq := by rw [← hwq]; exact below_drewN (Below.refl _ _) _
          clear hwq hAt hkc0 hrcell
          go_region_held3 (fun w' => Below wr.heap.size wr w')
            (first | exact bq.drew | exact heldB (by assumption) (by assumption))
            (first | (go_at_call 41; refine (hWO _ (by go_split_ands; assumption)).mono ?_; rintro e w1 ⟨wa, wc, rfl, wI, wB⟩) | (go_at_call 32; refine (hIH _ _ _ (by go_split_ands; assumption) wI).mono ?_; rintro e w2 ⟨rfl, mB⟩))
          have B3 : Below wr.heap.size wr w2 := by go_split_ands; assumption
          have B4 := Lib.hid (HBEL.out.trans (B3.mono HBEL.out.size))
          clear B3 mB wB wI
          go_wp2_with fail
          go_roundw
          case rel => exact ⟨k + 1, by omega, by go_num, by rw [HG.out], by rw [hstep.out], B4.out⟩
          case measure => simp [intOf]; omega
      · obtain rfl : k = M := by omega
        have hd : decide ((k : Int) < (k : Int)) = false := decide_eq_false (by omega)
        clear hb
        go_wp2_with fail
        go_ret
        exact ⟨by rw [hmin.out]; rfl, HBEL.out⟩
theorem heldX {w0 W w' : World} {b : Nat} {u0 u1 u2 : Value} (hs : W.cell? ⟨b, 0, none⟩ = some u0 ∧ W.cell? ⟨b, 1, none⟩ = some u1 ∧ W.cell? ⟨b, 2, none⟩ = some u2 ∧ Below w0.heap.size w0 W)
    (hb : Below W.heap.size W w') (l : b < w0.heap.size) : w'.cell? ⟨b, 0, none⟩ = some u0 ∧ w'.cell? ⟨b, 1, none⟩ = some u1 ∧ w'.cell? ⟨b, 2, none⟩ = some u2 ∧ Below w0.heap.size w0 w' := by
  obtain ⟨h0, h1, h2, h6⟩ := hs
  have e1 : b < W.heap.size := Nat.lt_of_lt_of_le l h6.size
  exact ⟨(hb.cell (p := ⟨b, 0, none⟩) e1).trans h0, (hb.cell (p := ⟨b, 1, none⟩) e1).trans h1, (hb.cell (p := ⟨b, 2, none⟩) e1).trans h2, h6.trans (hb.mono h6.size)⟩
set_option maxRecDepth 20000 in
set_option maxHeartbeats 4000000 in
theorem implMinor_any (ab ao r c n cap : Nat) (Z : Nat → Int) (hr : r ≤ 6) (hc : c ≤ 6) (hn : n = r * c) (hZ : ∀ i, i < n → (Z i).natAbs ≤ 100) : ∀ (m : Nat), m ≤ 6 → ∀ (ra ka : Option Addr) (rc kc : Nat) (R K : Nat → Nat) (w : World),
    IS .i64 w (some ⟨ab, ao, none⟩) n cap Z → IS .i64 w ra m rc (fun t => ((R t : Nat) : Int)) → IS .i64 w ka m kc (fun t => ((K t : Nat) : Int)) → (∀ t, t < m → R t < r) → (∀ t, t < m → K t < c) →
    Calls Try.prog 35 #[.agg #[.int .i64 r, .int .i64 c, .slice (some ⟨ab, ao, none⟩) n cap], .slice ra m rc, .slice ka m kc] w fun e w' => e = .returned (.int .i64 (minI Z c m R K)) ∧ Below w.heap.size w w' := by
  intro m
  induction m with
  | zero =>
    intro _ ra ka rc kc R K w _ _ _ _ _
    go_enter Try.func35, Try.ntmps35
    go_wp2_with fail
    go_ret
    exact ⟨rfl, (by repeat first | (with_reducible exact Below.refl _ _) | (with_reducible refine Below.setCell ?_ (by first | exact Nat.le_refl _ | (simp; done) | (simp; omega) | omega) _) | (with_reducible refine Below.alloc ?_ (by first | exact Nat.le_refl _ | (simp; done) | (simp; omega) | omega) _) | (with_reducible refine below_drewN ?_ _) | (with_reducible refine Below.drew ?_))⟩
  | succ m ih =>
    intro hm ra ka rc kc R K w hI hRl hKl hR hK
    obtain ⟨rb, ro, rfl, hrb, hrc0, _⟩ := hRl.at (show 0 < m + 1 by omega)
    obtain ⟨kb, ko, rfl, hkb, _, _⟩ := hKl.at (show 0 < m + 1 by omega)
    have hrcap := hRl.1
    have hrmx : rc ≤ 9223372036854775807 := by have := hRl.2.1; unfold maxLen at this; omega
    have hkcap := hKl.1
    have hkmx : kc ≤ 9223372036854775807 := by have := hKl.2.1; unfold maxLen at this; omega
    obtain ⟨F, hF⟩ : ∃ F : Nat → Int, F = fun k => sgn k * Z (R 0 * c + K k) * minI Z c m (fun t => R (1 + t)) (withoutN K k) := ⟨_, rfl⟩
    have hmin : Hid (minI Z c (m + 1) R K = sumTo F (m + 1)) := Lib.hid (by rw [hF]; rfl)
    have hFk : Hid (∀ k, F k = sgn k * Z (R 0 * c + K k) * minI Z c m (fun t => R (1 + t)) (withoutN K k)) := Lib.hid (fun k => by rw [hF])
    have hFB : Hid (∀ k, k < m + 1 → (F k).natAbs ≤ 100 * bn m) := Lib.hid (fun k hk => by
      rw [hF]
      exact term_abs (sgn_abs k) (hZ _ (by rw [hn]; exact place_in (hR 0 (by omega)) (hK k hk))) (minI_abs hn hZ m _ _ (fun t ht => hR (1 + t) (by omega)) (withoutN_lt hK)))
    have hbn := bn_step m (by omega)
    have hbn2 := bn_le m (by omega)
    clear hF
    obtain ⟨A, hA, hsub⟩ : ∃ A : Option Addr, (if rc = 1 then some (⟨rb, ro, none⟩ : Addr) else some ⟨rb, ro + 1, none⟩) = A ∧ Hid (∀ W, IS .i64 W (some ⟨rb, ro, none⟩) (m + 1) rc (fun t => ((R t : Nat) : Int)) → IS .i64 W A m (rc - 1) (fun t => ((R (1 + t) : Nat) : Int))) :=
      ⟨_, rfl, Lib.hid fun W hW => IS.sub (k := 1) hW (by omega) (fun e => if_neg e)⟩
    have HI := Lib.hid hI
    have HR := Lib.hid hRl
    have HK := Lib.hid hKl
    have LR := Lib.hid hR
    have LK := Lib.hid hK
    have HZ := Lib.hid hZ
    have HN := Lib.hid hn
    have IH := Lib.hid (ih (by omega))
    have hn36 : n ≤ 36 := by have : r * c ≤ 6 * 6 := Nat.mul_le_mul hr hc; omega
    clear hI hRl hKl hR hK hZ hn ih
    simp only [Nat.add_zero] at hrc0
    have hr0 := LR.out 0 (by omega)
    have hrw : Hid (w.cell? ⟨rb, ro, none⟩ = some (.int .i64 ((R 0 : Nat) : Int))) := Lib.hid hrc0
    clear hrc0
    generalize hi0 : R 0 = i0 at hrw hr0
    have HI0 := Lib.hid hi0
    clear hi0
    generalize hM : m + 1 = M at *
    have hm1 : m + 1 ≤ M := by omega
    have hm2 : M ≤ m + 1 := by omega
    have HM := Lib.hid hM
    clear hM
    have hm3 : (1 : Int) ≤ (M : Int) := by omega
    have hm4 : 1 ≤ M := by omega
    have hm5 : ((M : Int) == 0) = false := beq_eq_false_iff_ne.2 (by omega)
    have hm6 : (M == 0) = false := beq_eq_false_iff_ne.2 (by omega)
    go_enter Try.func35, Try.ntmps35
    go_wp2_with fail
    generalize hwa : w.alloc (.cells #[.int .i64 r, .int .i64 c, .slice (some ⟨ab, ao, none⟩) n cap] 28) = wa
    have Ba : Below w.heap.size w wa := by rw [← hwa]; exact (by repeat first | (with_reducible exact Below.refl _ _) | (with_reducible refine Below.setCell ?_ (by first | exact Nat.le_refl _ | (simp; done) | (simp; omega) | omega) _) | (with_reducible refine Below.alloc ?_ (by first | exact Nat.le_refl _ | (simp; done) | (simp; omega) | omega) _) | (with_reducible refine below_drewN ?_ _) | (with_reducible refine Below.drew ?_))
    have sa : wa.heap.size = w.heap.size + 1 := by rw [← hwa]; simp
    have Xa : Box wa w.heap.size r c (some ⟨ab, ao, none⟩) n cap := by rw [← hwa]; exact Box.new _ _ _ _ _ _ _
    have la : w.heap.size < wa.heap.size := by omega
    have HX := Lib.hid Xa
    have HBa := Lib.hid Ba
    clear hwa Xa Ba
    go_loopw [7, 8, 17] (fun s g i wr => ∃ k : Nat, k ≤ M ∧ i = .int .i64 k ∧ g = .int .i64 (sgn k) ∧ s = .int .i64 (sumTo F k) ∧ Below wa.heap.size wa wr) (fun _ _ i _ => M - (intOf i).toNat)
    case atStart => exact ⟨0, Nat.zero_le _, rfl, rfl, rfl, Below.refl _ _⟩
    case round =>
      obtain ⟨k, hk, rfl, rfl, rfl, hba⟩ := hrel
      have hb := HBa.out.trans (hba.mono HBa.out.size)
      have hs1 := sgn_le k
      have hs2 := sgn_abs k
      have hsum := sumTo_abs hFB.out k hk
      have hkB : k * (100 * bn m) ≤ 6 * (100 * bn m) := Nat.mul_le_mul_right _ (by omega)
      have HBEL := Lib.hid hb
      have HBA := Lib.hid hba
      by_cases hlt : k < M
      · have hd : decide ((k : Int) < (M : Int)) = true := decide_eq_true (by omega)
        have hkk := LK.out k hlt
        have hrcell : wr.cell? ⟨rb, ro, none⟩ = some (.int .i64 ((i0 : Nat) : Int)) := (hb.cell (p := ⟨rb, ro, none⟩) hrb).trans hrw.out
        obtain ⟨kb', ko', e, _, hkc0, _⟩ := (HK.out.below hb (Nat.le_refl _)).at hlt
        simp only [Option.some.injEq, Addr.mk.injEq, and_true] at e
        obtain ⟨rfl, rfl⟩ := e
        have hplace : i0 * c + K k < n := by rw [HN.out]; exact place_in hr0 hkk
        obtain ⟨ab', ao', e, _, hnc, _⟩ := (HI.out.below hb (Nat.le_refl _)).at hplace
        simp only [Option.some.injEq, Addr.mk.injEq, and_true] at e
        obtain ⟨rfl, rfl⟩ := e
        obtain ⟨x0, x1, x2⟩ := HX.out.below hba la
        have lr : w.heap.size < wr.heap.size := Nat.lt_of_lt_of_le la hba.size
        have hx100 := HZ.out (i0 * c + K k) hplace
        have hstep : Hid (sumTo F (k + 1) = sumTo F k + sgn k * Z (i0 * c + K k) * minI Z c m (fun t => R (1 + t)) (withoutN K k)) := Lib.hid (by
          show sumTo F k + F k = _
          rw [hFk.out, HI0.out])
        have hfin := sumTo_abs hFB.out (k + 1) hlt
        have hkB2 : (k + 1) * (100 * bn m) ≤ 6 * (100 * bn m) := Nat.mul_le_mul_right _ (by omega)
        have hyB := minI_abs HN.out HZ.out m (fun t => R (1 + t)) (withoutN K k) (fun t ht => LR.out (1 + t) (by omega)) (withoutN_lt (fun t ht => LK.out t (by omega)))
        have hIH : ∀ W ca cc, Below wr.heap.size wr W → IS .i64 W ca (M - 1) cc (without (fun t => ((K t : Nat) : Int)) k) → Calls Try.prog 35 #[.agg #[.int .i64 r, .int .i64 c, .slice (some ⟨ab, ao, none⟩) n cap], .slice A (M - 1) (rc - 1), .slice ca (M - 1) cc] W fun e w' => e = .returned (.int .i64 (minI Z c m (fun t => R (1 + t)) (withoutN K k))) ∧ Below W.heap.size W w' := by
          intro W ca cc hW hI
          have hb2 := hb.trans (hW.mono hb.size)
          rw [cast_without] at hI
          have e : M - 1 = m := by omega
          rw [e] at hI ⊢
          exact IH.out A ca (rc - 1) cc (fun t => R (1 + t)) (withoutN K k) W (HI.out.below hb2 (Nat.le_refl _)) (hsub.out W (HR.out.below hb2 (Nat.le_refl _))) hI (fun t ht => LR.out (1 + t) (by omega)) (withoutN_lt (fun t ht => LK.out t (by omega)))
        have hWO : ∀ W, Below wr.heap.size wr W → Calls Try.prog 43 #[.slice (some ⟨kb, ko, none⟩) M kc, .int .i64 k] W (ListNew W (M - 1) (without (fun t => ((K t : Nat) : Int)) k)) := by
          intro W hW
          have hb2 := hb.trans (hW.mono hb.size)
          exact allBut_any kb ko M kc k (fun t => ((K t : Nat) : Int)) W hlt (by omega) (HK.out.below hb2 (Nat.le_refl _))
        clear hb hba
        have he : ((i0 : Int) * (c : Int) + ((K k : Nat) : Int)) = ((i0 * c + K k : Nat) : Int) := by rw [Int.natCast_add, Int.natCast_mul]
        have ht : ((i0 : Int) * (c : Int) + ((K k : Nat) : Int)).toNat = i0 * c + K k := by rw [he]; exact Int.toNat_natCast _
        have hplt : (i0 : Int) * (c : Int) + ((K k : Nat) : Int) < (n : Int) := by rw [he]; omega
        have hp0 : (0 : Int) ≤ (i0 : Int) * (c : Int) := by rw [← Int.natCast_mul]; omega
        have hp00 : (i0 : Int) * (c : Int) ≤ 36 := by omega
        have hp1 : IntKind.i64.wrap ((i0 : Int) * (c : Int)) = (i0 : Int) * (c : Int) := IntWalk.i64_in _ (by omega)
        have hp2 : IntKind.i64.wrap ((i0 : Int) * (c : Int) + ((K k : Nat) : Int)) = (i0 : Int) * (c : Int) + ((K k : Nat) : Int) := IntWalk.i64_in _ (by omega)
        clear he
        generalize Z (i0 * c + K k) = x at hnc hx100 hstep
        generalize minI Z c m (fun t => R (1 + t)) (withoutN K k) = y at hIH hstep hyB
        rw [hstep.out] at hfin
        generalize hS0 : sumTo F k = S0 at hsum hstep hfin
        generalize hg0 : sgn k = g0 at hs1 hs2 hstep hfin
        have HG : Hid (sgn (k + 1) = -g0) := Lib.hid (by rw [← hg0]; rfl)
        clear hS0 hg0
        have hgx : (g0 * x).natAbs ≤ 100 := by rw [Int.natAbs_mul, hs2]; omega
        have hgxy := term_abs hs2 hx100 hyB
        have e1 : -100 ≤ g0 * x ∧ g0 * x ≤ 100 := by omega
        have e2 : -4320000000000000 ≤ g0 * x * y ∧ g0 * x * y ≤ 4320000000000000 := by omega
        have e3 : -4320000000000000 ≤ S0 + g0 * x * y ∧ S0 + g0 * x * y ≤ 4320000000000000 := by omega
        have hw1 : IntKind.i64.wrap (g0 * x) = g0 * x := IntWalk.i64_in _ (by omega)
        have hw2 : IntKind.i64.wrap (g0 * x * y) = g0 * x * y := IntWalk.i64_in _ (by omega)
        have hw3 : IntKind.i64.wrap (S0 + g0 * x * y) = S0 + g0 * x * y := IntWalk.i64_in _ (by omega)
        have hw4 : IntKind.i64.wrap (-g0) = -g0 := IntWalk.i64_in _ (by omega)
        clear hsum hfin hkB hkB2 hyB hgx hgxy hs2 hx100
        generalize hKk : K k = kk at *
        clear hKk
        go_wp2_with fail
        go_quiet (fail)
        go_wp2_with fail
        generalize hwq : wr.drewN _ = wq
        have bq : Below wr.heap.size wr wq := by rw [← hwq]; exact below_drewN (Below.refl _ _) _
        have y0 : wq.cell? ⟨w.heap.size, 0, none⟩ = some (.int .i64 r) := (bq.cell (p := ⟨w.heap.size, 0, none⟩) lr).trans x0
        have y1 : wq.cell? ⟨w.heap.size, 1, none⟩ = some (.int .i64 c) := (bq.cell (p := ⟨w.heap.size, 1, none⟩) lr).trans x1
        have y2 : wq.cell? ⟨w.heap.size, 2, none⟩ = some (.slice (some ⟨ab, ao, none⟩) n cap) := (bq.cell (p := ⟨w.heap.size, 2, none⟩) lr).trans x2
        clear hwq hkc0 hrcell hnc x0 x1 x2 hp1 hp2 ht
        go_region_held3 (fun w' => w'.cell? ⟨w.heap.size, 0, none⟩ = some (.int .i64 r) ∧ w'.cell? ⟨w.heap.size, 1, none⟩ = some (.int .i64 c) ∧ w'.cell? ⟨w.heap.size, 2, none⟩ = some (.slice (some ⟨ab, ao, none⟩) n cap) ∧ Below wr.heap.size wr w')
          (first | exact ⟨y0, y1, y2, bq.drew⟩ | exact heldX (by assumption) (by assumption) lr)
          (first | (go_at_call 43; refine (hWO _ (by go_split_ands; assumption)).mono ?_; rintro e w1 ⟨wa2, wc, rfl, wI, wB⟩) | (go_at_call 35; refine (hIH _ _ _ (by go_split_ands; assumption) wI).mono ?_; rintro e w2 ⟨rfl, mB⟩))
        have B3 : Below wr.heap.size wr w2 := by go_split_ands; assumption
        have B4 := Lib.hid (HBA.out.trans (B3.mono HBA.out.size))
        clear B3 mB wB wI y0 y1 y2
        go_wp2_with fail
        go_roundw
        case rel => exact ⟨k + 1, by omega, by go_num, by rw [HG.out], by rw [hstep.out], B4.out⟩
        case measure => simp [intOf]; omega
      · obtain rfl : k = M := by omega
        have hd : decide ((k : Int) < (k : Int)) = false := decide_eq_false (by omega)
        clear hb hba
        go_wp2_with fail
        go_ret
        exact ⟨by rw [hmin.out]; rfl, HBEL.out⟩
end Go.Proofs.Ytinekdfpgkmbnac
