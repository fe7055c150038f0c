/- Helper: walks of AngleTurns, of the program and of its reference. Conditions: none. -/
import Derived.Test.YtbhndehndfnhiadRootWalks
import Derived.Test.YtbhndehndfnhiadAngleFacts
import Derived.Test.YtbhndehndfnhiadSubFacts
import Derived.Lib.Hide
set_option linter.unusedVariables false
namespace Go.Proofs.Ytbhndehndfnhiad
open Go.RowKit

def halfP (t : Option Nat) : Option Nat := fop .quo .f64 t (fop .add .f64 (some 4607182418800017408) (fsqrt (fop .add .f64 (some 4607182418800017408) (fop .mul .f64 t t))))
def halfN : Nat → Option Nat → Option Nat
  | 0, t => t
  | n + 1, t => halfP (halfN n t)
def kk (j : Nat) : Nat := floatOfInt .f64 (15 - 2 * j)
def polyP (u : Option Nat) : Nat → Option Nat
  | 0 => some 0
  | j + 1 => fop .sub .f64 (fop .quo .f64 (some 4607182418800017408) (some (kk j))) (fop .mul .f64 u (polyP u j))
def smallP (T : Option Nat) : Option Nat :=
  fop .quo .f64 (fop .mul .f64 (some 4620693217682128896) (fop .mul .f64 (halfN 3 T) (polyP (fop .mul .f64 (halfN 3 T) (halfN 3 T)) 8))) (some 4618760256179416344)

theorem kk_ge : ∀ j : Nat, j < 8 → (ford .f64 (some (kk j)) (some 4607182418800017408) == some .gt || ford .f64 (some (kk j)) (some 4607182418800017408) == some .eq) = true := by decide +kernel
theorem kk_end : (ford .f64 (some (kk 8)) (some 4607182418800017408) == some .gt || ford .f64 (some (kk 8)) (some 4607182418800017408) == some .eq) = false := by decide +kernel
theorem kk_next : ∀ j : Nat, j < 8 → fop .sub .f64 (some (kk j)) (some 4611686018427387904) = some (kk (j + 1)) := by decide +kernel
theorem kk_start : kk 0 = 4624633867356078080 := by decide +kernel
theorem cn_kk (j : Nat) : cn .f64 (kk j) = some (kk j) := cn_number .f64 _ _ _

def kIdx (b : Nat) : Nat := 9 - (List.range 9).findIdx (fun j => kk j == b)
theorem kIdx_kk : ∀ j : Nat, j < 9 → kIdx (kk j) = 9 - j := by decide +kernel
def kOf (v : Value) : Nat := match v with | .float _ b => kIdx b | _ => 0

set_option maxHeartbeats 1000000 in
theorem implSmall_any (a : Nat) {T : Option Nat} (fa : FV .f64 a T) (w : World) :
    Calls Try.prog 42 #[.float .f64 a] w fun e w' => ∃ r, e = .returned (.float .f64 r) ∧ FV .f64 r (smallP T) ∧ ∃ n, w' = w.drewN n := by
  go_enter Try.func42, Try.ntmps42
  go_wp2
  go_loopw [0, 6] (fun t i w' => ∃ j n r : Nat, j ≤ 3 ∧ i = .int .i64 j ∧ t = .float .f64 r ∧ FV .f64 r (halfN j T) ∧ w' = w.drewN n) (fun _ i _ => 3 - (intOf i).toNat)
  case atStart => exact ⟨0, 0, a, by omega, rfl, rfl, fa, rfl⟩
  case round =>
    obtain ⟨j, n, r0, hj, rfl, rfl, h0, rfl⟩ := hrel
    by_cases hlt : j < 3
    · go_wp2_with (first | (refine wpList_farith rfl _ _ _ _ _ rfl rfl _ _ _ rfl rfl (by first | assumption | (with_reducible exact FV.ofInt _ _) | exact FV.lit (by kernel_rfl) (by kernel_rfl)) (by first | assumption | (with_reducible exact FV.ofInt _ _) | exact FV.lit (by kernel_rfl) (by kernel_rfl)) ?_; intro r m hr) | (go_at_call 64; refine (sqrt_any _ (by assumption) _).mono ?_; rintro e w' ⟨r, rfl, hr, n, rfl⟩))
      go_roundw
      case rel => exact ⟨j + 1, _, _, by omega, by go_num, rfl, by assumption, rfl⟩
      case measure => simp [intOf]; omega
    · obtain rfl : j = 3 := by omega
      have c15 : cn .f64 4624633867356078080 = some (kk 0) := by rw [← kk_start]; exact cn_kk 0
      clear fa
      go_wp2_with (first | (refine wpList_farith rfl _ _ _ _ _ rfl rfl _ _ _ rfl rfl (by first | assumption | (with_reducible exact FV.ofInt _ _) | exact FV.lit (by kernel_rfl) (by kernel_rfl)) (by first | assumption | (with_reducible exact FV.ofInt _ _) | exact FV.lit (by kernel_rfl) (by kernel_rfl)) ?_; intro r m hr))
      go_loopw [4, 5] (fun p k w' => ∃ j n r : Nat, j ≤ 8 ∧ k = .float .f64 (kk j) ∧ p = .float .f64 r ∧ FV .f64 r (polyP (fop .mul .f64 (halfN 3 T) (halfN 3 T)) j) ∧ w' = w.drewN n) (fun _ k _ => kOf k)
      case atStart => exact ⟨0, _, 0, by omega, by rw [kk_start], rfl, FV.lit (by kernel_rfl) (by kernel_rfl), rfl⟩
      case round =>
        obtain ⟨j, n, r0, hj, rfl, rfl, h0, rfl⟩ := hrel
        have ck := cn_kk j
        have c1 : cn .f64 4607182418800017408 = some 4607182418800017408 := cn_of (by decide +kernel)
        have fk : FV .f64 (kk j) (some (kk j)) := FV.ofInt _ _
        by_cases hlt : j < 8
        · have hge := kk_ge j hlt
          have hnx := kk_next j hlt
          have HN := Lib.hid hnx
          have HM := Lib.hid (kIdx_kk j (by omega))
          have HM2 := Lib.hid (kIdx_kk (j + 1) (by omega))
          clear hnx
          go_wp2_with (first | (refine wpList_farith rfl .sub _ _ _ _ rfl rfl .f64 (kk j) _ rfl rfl fk (FV.lit (by kernel_rfl) (by kernel_rfl)) ?_; intro r m hr; rw [HN.out] at hr; obtain rfl := hr.eq; clear hr) | (refine wpList_farith rfl _ _ _ _ _ rfl rfl _ _ _ rfl rfl (by first | assumption | (with_reducible exact FV.ofInt _ _) | exact FV.lit (by kernel_rfl) (by kernel_rfl)) (by first | assumption | (with_reducible exact FV.ofInt _ _) | exact FV.lit (by kernel_rfl) (by kernel_rfl)) ?_; intro r m hr))
          go_roundw
          case rel => exact ⟨j + 1, _, _, by omega, rfl, rfl, by assumption, rfl⟩
          case measure => simp [kOf, HM.out, HM2.out]; omega
        · obtain rfl : j = 8 := by omega
          have hge := kk_end
          go_wp2_with (refine wpList_farith rfl _ _ _ _ _ rfl rfl _ _ _ rfl rfl (by first | assumption | (with_reducible exact FV.ofInt _ _) | exact FV.lit (by kernel_rfl) (by kernel_rfl)) (by first | assumption | (with_reducible exact FV.ofInt _ _) | exact FV.lit (by kernel_rfl) (by kernel_rfl)) ?_; intro r m hr)
          go_ret
          exact ⟨_, rfl, by assumption, _, rfl⟩

theorem order_zero (k : FloatKind) (s : Bool) (m : Nat) (e p : Int) : (Ieee.Datum.number s m e).order (.number false 0 p) = some (if m = 0 then .eq else if s then .lt else .gt) := by
  show some (compare (Ieee.signed s m (e - min e p).toNat) (Ieee.signed false 0 (p - min e p).toNat)) = _
  have h0 : Ieee.signed false 0 (p - min e p).toNat = 0 := by unfold Ieee.signed; rw [if_neg (by decide), Nat.shiftLeft_eq, Nat.zero_mul]; rfl
  rw [h0]
  congr 1
  by_cases hm : m = 0
  · subst hm
    have : Ieee.signed s 0 (e - min e p).toNat = 0 := by unfold Ieee.signed; rw [Nat.shiftLeft_eq, Nat.zero_mul]; cases s <;> rfl
    rw [this, if_pos rfl]
    rfl
  · rw [if_neg hm]
    have hp : 0 < m <<< (e - min e p).toNat := by rw [Nat.shiftLeft_eq]; exact Nat.mul_pos (Nat.pos_of_ne_zero hm) (Nat.two_pow_pos _)
    unfold Ieee.signed
    cases s
    · rw [if_neg (by decide), if_neg (by decide)]
      exact Int.compare_eq_gt.2 (by omega)
    · rw [if_pos rfl, if_pos rfl]
      exact Int.compare_eq_lt.2 (by omega)

/-- Held against zero, a number and the widened one stand alike. -/
theorem widen_zero {X : Option Nat} (h : clean .f32 X) : ford .f64 (widen X) (some 0) = ford .f32 X (some 0) := by
  cases X with
  | none => rfl
  | some x =>
    have hx : (Ieee.single.read x).isNaN = false := h x rfl
    have h32 : Ieee.single.read 0 = .number false 0 (-149) := by decide +kernel
    have h64 : Ieee.double.read 0 = .number false 0 (-1074) := by decide +kernel
    show (Ieee.double.read (Ieee.double.write (Ieee.single.read x))).order (Ieee.double.read 0) = (Ieee.single.read x).order (Ieee.single.read 0)
    rw [h32, h64]
    rcases read_single x with ⟨s, h⟩ | ⟨s, t, h⟩ | ⟨s, m, e, h, hm, h1, h2⟩
    · rw [h]; cases s <;> decide +kernel
    · rw [h] at hx; cases hx
    · rw [h]
      by_cases h0 : m = 0
      · subst h0
        have : Ieee.double.write (.number s 0 e) = Ieee.double.word s 0 := by simp [Ieee.Format.write, Ieee.Format.nearest]
        rw [this, read_word64 s 0 (by decide), if_pos (by decide), order_zero .f64, order_zero .f64, if_pos rfl]
      · have hlog : m.log2 < 24 := (Nat.log2_lt h0).2 hm
        rw [word_rung s m e h0 _ rfl (by omega) (by omega) (by omega)]
        have hg := mul_ge m h0 (by omega)
        have hl := mul_lt m (by omega)
        generalize m * 2 ^ (52 - m.log2) = z at *
        have hq : (e + (m.log2 : Int) - 52 + 1074).toNat ≤ 1149 := by omega
        generalize (e + (m.log2 : Int) - 52 + 1074).toNat = q at *
        rw [read_word64 s _ (by omega), if_neg (by omega), order_zero .f64, order_zero .f64, if_neg h0, if_neg (by omega)]

theorem sub_self_zero64 {u : Option Nat} (h : clean .f64 u) : (ford .f64 (fop .sub .f64 u u) (some 0) == some .eq) = finite .f64 u := by
  cases u with
  | none => rfl
  | some x =>
    have hx' : (Ieee.double.read x).isNaN = false := h x rfl
    have hf : finite .f64 (some x) = (match Ieee.double.read x with | .number .. => true | _ => false) := rfl
    rw [fop_sub, hf]
    generalize Ieee.double.read x = d at *
    cases d with
    | nan s t => cases hx'
    | infinity s => cases s <;> rfl
    | number s m e =>
      have hs : (Ieee.Datum.number s m e).sum (Ieee.Datum.number s m e).opposite = some (.number false 0 e) := by
        simp only [Ieee.Datum.opposite, Ieee.Datum.sum, Int.min_self, Int.sub_self, Int.toNat_zero]
        have h0 : Ieee.signed s m 0 + Ieee.signed (!s) m 0 = 0 := by
          cases s <;> simp [Ieee.signed] <;> omega
        rw [h0]
        simp
      rw [hs]
      have hw : Ieee.double.write (.number false 0 e) = 0 := by simp [Ieee.Format.write, Ieee.Format.nearest, Ieee.Format.word]
      simp only [Option.map_some, hw]
      decide +kernel

def angP (b1 b2 b3 : Bool) (Y X : Option Nat) : Option Nat :=
  let g0 := if b1 then fop .sub .f64 (some 4598175219545276416) (smallP (fop .quo .f64 (fabs X) (fabs Y))) else smallP (fop .quo .f64 (fabs Y) (fabs X))
  let g1 := if b2 then fop .sub .f64 (some 4602678819172646912) g0 else g0
  if b3 then fneg .f64 g1 else g1

def angleP (Y X : Option Nat) : Option Nat :=
  if finite .f64 Y && finite .f64 X then
    if ford .f64 X (some 0) == some .eq && ford .f64 Y (some 0) == some .eq then some 0
    else angP (ford .f64 (fabs Y) (fabs X) == some .gt) (ford .f64 X (some 0) == some .lt) (ford .f64 Y (some 0) == some .lt) Y X
  else none

theorem halfN_bound {T : Option Nat} (h : Lt2 2 T) (p : Pos T) : Lt2 5 (halfN 3 T) ∧ Pos (halfN 3 T) := by
  obtain ⟨a1, a2⟩ := half_bound h p (by omega) (by omega)
  obtain ⟨b1, b2⟩ := half_bound a1 a2 (by omega) (by omega)
  exact half_bound b1 b2 (by omega) (by omega)

theorem inv_bound : ∀ j : Nat, j < 8 → lt2b 2 (fop .quo .f64 (some 4607182418800017408) (some (kk j))) = true := by decide +kernel

theorem polyP_bound {u : Option Nat} (h : Lt2 11 u) : ∀ j : Nat, j ≤ 8 → Lt2 (14 * j) (polyP u j) := by
  intro j
  induction j with
  | zero => intro _; exact (Lt2.of_b (i := 0) (X := some 0) (by decide +kernel)).mono (by simp)
  | succ j ih =>
    intro hj
    have a := Lt2.of_b (inv_bound j (by omega))
    have b := h.mul (ih (by omega)) (by omega) (by omega)
    have c := (a.mono (j := 11 + 14 * j + 1) (by omega)).sub b (by omega) (by omega)
    exact c.mono (by push_cast; omega)

theorem smallP_bound {T : Option Nat} (h : Lt2 2 T) (p : Pos T) : Lt2 122 (smallP T) := by
  obtain ⟨a, b⟩ := halfN_bound h p
  have u := (a.mul a (by omega) (by omega)).mono (j := 11) (by omega)
  have c := polyP_bound u 8 (by omega)
  have d := (a.mul c (by omega) (by omega)).mono (j := 118) (by omega)
  have e8 : Lt2 4 (some 4620693217682128896) := Lt2.of_b (by decide +kernel)
  have e := (e8.mul d (by omega) (by omega)).mono (j := 123) (by omega)
  have g : Ge2 2 (some 4618760256179416344) := Ge2.of_b (by decide +kernel)
  exact (e.quo g (by omega) (by omega)).mono (by omega)

theorem Lt2.neg {i : Int} {X : Option Nat} (h : Lt2 i X) (hw : ∀ x, X = some x → x < 18446744073709551616) : Lt2 i (fneg .f64 X) := by
  obtain ⟨x, s, m, e, rfl, hx, hl, hb⟩ := h
  have hxl := hw x rfl
  have hn : Op.negFloat .f64 x = if x < 9223372036854775808 then x + 9223372036854775808 else x - 9223372036854775808 := by
    show x ^^^ 2 ^ 63 = _
    have e63 : (2 : Nat) ^ 63 = 9223372036854775808 := by decide
    have hx2 : x = x % 9223372036854775808 + x / 9223372036854775808 * 9223372036854775808 := by omega
    have key : ∀ a, a < 9223372036854775808 → a ^^^ 2 ^ 63 = a + 9223372036854775808 ∧ (a + 9223372036854775808) ^^^ 2 ^ 63 = a := by
      intro a ha
      have h1 : a ^^^ 2 ^ 63 = a + 2 ^ 63 := by
        apply Nat.eq_of_testBit_eq
        intro j
        rw [Nat.testBit_xor, Nat.testBit_two_pow, Nat.add_comm]
        by_cases hj : 63 = j
        · subst hj
          rw [Nat.testBit_two_pow_add_eq, Nat.testBit_lt_two_pow (by rw [e63]; exact ha)]
          simp
        · by_cases hlt : j < 63
          · rw [Nat.testBit_two_pow_add_gt hlt]
            simp [hj]
          · have h2 : a.testBit j = false := Nat.testBit_lt_two_pow (Nat.lt_of_lt_of_le (by rw [← e63] at ha; exact ha) (Nat.pow_le_pow_right (by decide) (by omega)))
            have h3 : (2 ^ 63 + a).testBit j = false := Nat.testBit_lt_two_pow (Nat.lt_of_lt_of_le (m := 2 ^ 64) (by rw [e63]; omega) (Nat.pow_le_pow_right (by decide) (by omega)))
            rw [h2, h3]
            simp [hj]
      refine ⟨by rw [h1, e63], ?_⟩
      rw [← e63, ← h1, Nat.xor_assoc, Nat.xor_self, Nat.xor_zero]
    split
    · rename_i h; exact (key x h).1
    · rename_i h
      have := (key (x - 9223372036854775808) (by omega)).2
      have h2 : x - 9223372036854775808 + 9223372036854775808 = x := by omega
      rw [h2] at this
      exact this
  refine ⟨Op.negFloat .f64 x, !s, m, e, rfl, ?_, hl, hb⟩
  rw [hn]
  obtain ⟨e1, e2, e3, e4⟩ := double_consts
  have hm : (if x < 9223372036854775808 then x + 9223372036854775808 else x - 9223372036854775808) % 9223372036854775808 = x % 9223372036854775808 := by split <;> omega
  have hs : ((if x < 9223372036854775808 then x + 9223372036854775808 else x - 9223372036854775808) / 9223372036854775808 % 2 == 1) = !(x / 9223372036854775808 % 2 == 1) := by
    split
    · rename_i h
      have h1 : (x + 9223372036854775808) / 9223372036854775808 = 1 := by omega
      have h2 : x / 9223372036854775808 = 0 := by omega
      rw [h1, h2]; rfl
    · rename_i h
      have h1 : (x - 9223372036854775808) / 9223372036854775808 = 0 := by omega
      have h2 : x / 9223372036854775808 = 1 := by omega
      rw [h1, h2]; rfl
  unfold Ieee.Format.read at hx ⊢
  simp only [e1, e2, e3, e4, hm, hs] at hx ⊢
  split at hx
  · rename_i h; rw [if_pos h]; cases hx; rfl
  · rename_i h
    rw [if_neg h]
    split at hx
    · rename_i h'; rw [if_pos h']; cases hx; rfl
    · split at hx <;> cases hx

theorem fabs_pos {X : Option Nat} (h : finite .f64 X = true) : Pos (fabs X) := by
  cases X with
  | none => cases h
  | some x =>
    have h2 : finite .f64 (some x) = (match Ieee.double.read x with | .number .. => true | _ => false) := rfl
    rw [h2] at h
    cases hd : Ieee.double.read x with
    | nan s t => rw [hd] at h; cases h
    | infinity s => rw [hd] at h; cases h
    | number s m e => exact ⟨x % 9223372036854775808, m, e, rfl, by rw [read_abs, hd]; rfl⟩

theorem fabs_zero {X : Option Nat} (h : finite .f64 X = true) : ford .f64 (fabs X) (some 0) = some .eq ↔ ford .f64 X (some 0) = some .eq := by
  cases X with
  | none => cases h
  | some x =>
    have h2 : finite .f64 (some x) = (match Ieee.double.read x with | .number .. => true | _ => false) := rfl
    rw [h2] at h
    have h64 : Ieee.double.read 0 = .number false 0 (-1074) := by decide +kernel
    show (Ieee.double.read (x % 9223372036854775808)).order (Ieee.double.read 0) = some .eq ↔ (Ieee.double.read x).order (Ieee.double.read 0) = some .eq
    rw [read_abs, h64]
    cases hd : Ieee.double.read x with
    | nan s t => rw [hd] at h; cases h
    | infinity s => rw [hd] at h; cases h
    | number s m e =>
      show (Ieee.Datum.number false m e).order _ = _ ↔ _
      rw [order_zero .f64, order_zero .f64]
      by_cases hm : m = 0
      · rw [if_pos hm]; simp [hm]
      · rw [if_neg hm, if_neg hm]; cases s <;> simp

theorem FV.lt64 {r : Nat} {u : Option Nat} (h : FV .f64 r u) : ∀ x, u = some x → x < 18446744073709551616 := by
  intro x hx
  subst hx
  obtain rfl := h.eq
  have := h.2
  simpa [Lit.wf] using this

/-- The angle, before it is turned, is small. -/
theorem angP_bound {Y X : Option Nat} (hY : finite .f64 Y = true) (hX : finite .f64 X = true) (hz : ¬ (ford .f64 X (some 0) = some .eq ∧ ford .f64 Y (some 0) = some .eq)) (b2 : Bool) :
    Lt2 126 (angP (ford .f64 (fabs Y) (fabs X) == some .gt) b2 false Y X) := by
  have py := fabs_pos hY
  have px := fabs_pos hX
  have hz' : ¬ (ford .f64 (fabs X) (some 0) = some .eq ∧ ford .f64 (fabs Y) (some 0) = some .eq) := by rw [fabs_zero hX, fabs_zero hY]; exact hz
  have q25 : Lt2 122 (some 4598175219545276416) := Lt2.of_b (by decide +kernel)
  have q5 : Lt2 124 (some 4602678819172646912) := Lt2.of_b (by decide +kernel)
  have hg : Lt2 124 (if (ford .f64 (fabs Y) (fabs X) == some .gt) then fop .sub .f64 (some 4598175219545276416) (smallP (fop .quo .f64 (fabs X) (fabs Y))) else smallP (fop .quo .f64 (fabs Y) (fabs X))) := by
    cases hb : (ford .f64 (fabs Y) (fabs X) == some .gt) with
    | true =>
      have hgt : ford .f64 (fabs Y) (fabs X) = some .gt := by simpa using hb
      have hle : ¬ ford .f64 (fabs X) (fabs Y) = some .gt := by
        intro hgt2
        obtain ⟨x, m, e, hx1, hx2⟩ := px
        obtain ⟨y, n, f, hy1, hy2⟩ := py
        rw [hx1, hy1] at hgt hgt2
        have g1 : (Ieee.double.read y).order (Ieee.double.read x) = some .gt := hgt
        have g2 : (Ieee.double.read x).order (Ieee.double.read y) = some .gt := hgt2
        rw [hx2, hy2] at g1 g2
        simp only [Ieee.Datum.order, Option.some.injEq, Int.compare_eq_gt] at g1 g2
        rw [Int.min_comm] at g2
        omega
      obtain ⟨a, b⟩ := quo_le_one px py hz' hle
      exact q25.sub (smallP_bound a b) (by omega) (by omega)
    | false =>
      have hle : ¬ ford .f64 (fabs Y) (fabs X) = some .gt := by simpa using hb
      obtain ⟨a, b⟩ := quo_le_one py px (fun h => hz' ⟨h.2, h.1⟩) hle
      exact (smallP_bound a b).mono (by omega)
  unfold angP
  generalize (if (ford .f64 (fabs Y) (fabs X) == some .gt) then fop .sub .f64 (some 4598175219545276416) (smallP (fop .quo .f64 (fabs X) (fabs Y))) else smallP (fop .quo .f64 (fabs Y) (fabs X))) = g0 at *
  cases b2
  · exact hg.mono (by omega)
  · exact q5.sub hg (by omega) (by omega)

theorem write_lt64 (d : Ieee.Datum) : Ieee.double.write d < 18446744073709551616 := Ieee.Format.write_lt _ d
theorem fop_lt {op : BinOp} {u v : Option Nat} {x : Nat} (h : fop op .f64 u v = some x) : x < 18446744073709551616 := by
  unfold fop at h
  cases u with
  | none => cases h
  | some a =>
    cases v with
    | none => cases h
    | some b =>
      have hb : floatBits op .f64 a b = some x := h
      have := floatBits_wf hb
      simpa [Lit.wf] using this

theorem angP_neg (b1 b2 : Bool) (Y X : Option Nat) : angP b1 b2 true Y X = fneg .f64 (angP b1 b2 false Y X) := rfl
theorem angP_lt (b1 b2 : Bool) (Y X : Option Nat) : ∀ x, angP b1 b2 false Y X = some x → x < 18446744073709551616 := by
  intro x hx
  cases b2
  · cases b1
    · exact fop_lt (op := .quo) (u := fop .mul .f64 (some 4620693217682128896) (fop .mul .f64 (halfN 3 (fop .quo .f64 (fabs Y) (fabs X))) (polyP (fop .mul .f64 (halfN 3 (fop .quo .f64 (fabs Y) (fabs X))) (halfN 3 (fop .quo .f64 (fabs Y) (fabs X)))) 8))) (v := some 4618760256179416344) hx
    · exact fop_lt (op := .sub) (u := some 4598175219545276416) (v := smallP (fop .quo .f64 (fabs X) (fabs Y))) hx
  · exact fop_lt (op := .sub) (u := some 4602678819172646912) (v := if b1 then fop .sub .f64 (some 4598175219545276416) (smallP (fop .quo .f64 (fabs X) (fabs Y))) else smallP (fop .quo .f64 (fabs Y) (fabs X))) hx

theorem fits_angle (Y X : Option Nat) : fits (angleP Y X) := by
  unfold angleP
  by_cases hf : (finite .f64 Y && finite .f64 X) = true
  · rw [if_pos hf]
    obtain ⟨hY, hX⟩ := (Bool.and_eq_true _ _).mp hf
    by_cases hz : (ford .f64 X (some 0) == some .eq && ford .f64 Y (some 0) == some .eq) = true
    · rw [if_pos hz]
      exact fits_of_lt2 (Lt2.of_b (by decide +kernel))
    · rw [if_neg hz]
      have hz' : ¬ (ford .f64 X (some 0) = some .eq ∧ ford .f64 Y (some 0) = some .eq) := by
        rintro ⟨h1, h2⟩; exact hz (by rw [h1, h2]; rfl)
      have hb := angP_bound hY hX hz' (ford .f64 X (some 0) == some .lt)
      cases (ford .f64 Y (some 0) == some .lt)
      · exact fits_of_lt2 (hb.mono (by omega))
      · rw [angP_neg]
        exact fits_of_lt2 ((Lt2.neg hb (angP_lt _ _ _ _)).mono (by omega))
  · rw [if_neg hf]
    intro x hx; cases hx

theorem nan_any (w : World) : Calls Try.prog 61 #[] w fun e w' => ∃ r, e = .returned (.float .f64 r) ∧ FV .f64 r none ∧ w = w' := by
  have hn : FV .f64 9221120237041090561 none := ⟨cn_nan (by decide +kernel), by decide +kernel⟩
  go_enter Try.func61, Try.ntmps61
  go_wp2
  go_ret
  exact ⟨_, rfl, hn, rfl⟩
theorem noNumber_any (w : World) : Calls Try.prog 35 #[] w fun e w' => ∃ r, e = .returned (.float .f32 r) ∧ FV .f32 r none ∧ ∃ n, w' = w.drewN n := by
  have hf : fits none := by intro x hx; cases hx
  go_enter Try.func35, Try.ntmps35
  go_wp2_with (first | (go_at_call 61; refine (nan_any _).mono ?_; rintro e w' ⟨r, rfl, hr, rfl⟩) | (refine wpList_narrow rfl _ _ _ rfl _ rfl (by kernel_rfl) Try.underlying22 (by assumption) (by assumption) ?_; intro r m hr))
  go_ret
  exact ⟨_, rfl, by assumption, _, rfl⟩
set_option maxHeartbeats 2000000 in
theorem implAngle_core (y x : Nat) {Y X : Option Nat} (fy : FV .f32 y Y) (fx : FV .f32 x X) (w : World) (hY : finite .f32 Y = true) (hX : finite .f32 X = true) (z1 z2 : Bool)
    (hz1 : (ford .f32 Y (some 0) == some .eq) = z1) (hz2 : (ford .f32 X (some 0) == some .eq) = z2) (hz : (z1 && z2) = false) (b1 b2 b3 : Bool)
    (hb1 : (ford .f64 (fabs (widen Y)) (fabs (widen X)) == some .gt) = b1) (hb2 : (ford .f32 X (some 0) == some .lt) = b2) (hb3 : (ford .f32 Y (some 0) == some .lt) = b3)
    (hfit : fits (angP b1 b2 b3 (widen Y) (widen X))) :
    Calls Try.prog 17 #[.float .f32 y, .float .f32 x] w fun e w' => ∃ r, e = .returned (.float .f32 r) ∧ FV .f32 r (narrow (angP b1 b2 b3 (widen Y) (widen X))) ∧ ∃ n, w' = w.drewN n := by
  have c0 : cn .f32 0 = some 0 := cn_of (by decide +kernel)
  have hy1 := fy.1
  have hx1 := fx.1
  have neg : ∀ r Z, FV .f64 r Z → FV .f64 (Op.negFloat .f64 r) (fneg .f64 Z) := fun r Z h => h.neg
  cases b1 <;> cases b2 <;> cases b3 <;> cases z1
  all_goals (try (have hz2' : z2 = false := by simpa using hz)); (try subst hz2')
  all_goals
    go_enter Try.func17, Try.ntmps17
    go_wp2_with (first | (go_at_call 40; refine (implIsFinite_any _ (by assumption) _).mono ?_; rintro e w' ⟨rfl, n, rfl⟩) | (refine wpList_widen rfl _ _ _ rfl _ rfl (by kernel_rfl) Try.underlying25 (by assumption) ?_; intro r m hr) | (go_at_call 41; refine (abs_any _ (by assumption) _).mono ?_; rintro e w' ⟨r, rfl, hr, rfl⟩; have hr1 := hr.1) | (refine wpList_farith rfl _ _ _ _ _ rfl rfl _ _ _ rfl rfl (by first | assumption | (with_reducible exact FV.ofInt _ _) | exact FV.lit (by kernel_rfl) (by kernel_rfl)) (by first | assumption | (with_reducible exact FV.ofInt _ _) | exact FV.lit (by kernel_rfl) (by kernel_rfl)) ?_; intro r m hr) | (go_at_call 42; refine (implSmall_any _ (by assumption) _).mono ?_; rintro e w' ⟨r, rfl, hr, n, rfl⟩) | (go_at_call 37; refine (implNarrow_any _ (X := angP _ _ _ _ _) (by first | assumption | (apply neg; assumption)) hfit _).mono ?_; rintro e w' ⟨r, rfl, hr, n, rfl⟩))
    go_ret
    exact ⟨_, rfl, by assumption, _, rfl⟩
theorem implAngle_any (y x : Nat) {Y X : Option Nat} (fy : FV .f32 y Y) (fx : FV .f32 x X) (w : World) :
    Calls Try.prog 17 #[.float .f32 y, .float .f32 x] w fun e w' => ∃ r, e = .returned (.float .f32 r) ∧ FV .f32 r (narrow (angleP (widen Y) (widen X))) ∧ ∃ n, w' = w.drewN n := by
  have hfit := fits_angle (widen Y) (widen X)
  have zx := widen_zero fx.clean
  have zy := widen_zero fy.clean
  have finx := widen_finite fx.clean
  have finy := widen_finite fy.clean
  have c0 : cn .f32 0 = some 0 := cn_of (by decide +kernel)
  have hy1 := fy.1
  have hx1 := fx.1
  by_cases hfin : (finite .f32 Y && finite .f32 X) = true
  · obtain ⟨hfy, hfx⟩ := (Bool.and_eq_true _ _).mp hfin
    by_cases hz : (ford .f32 X (some 0) == some .eq && ford .f32 Y (some 0) == some .eq) = true
    · have hang : narrow (angleP (widen Y) (widen X)) = some 0 := by
        unfold angleP
        rw [finx, finy, hfin, if_pos rfl, zx, zy, if_pos hz]
        decide +kernel
      have HA := Lib.hid hang
      obtain ⟨hzx, hzy⟩ := (Bool.and_eq_true _ _).mp hz
      clear hang hfit zx zy finx finy hfin hz
      go_enter Try.func17, Try.ntmps17
      go_wp2_with (first | (go_at_call 40; refine (implIsFinite_any _ (by assumption) _).mono ?_; rintro e w' ⟨rfl, n, rfl⟩))
      go_ret
      exact ⟨_, rfl, by rw [HA.out]; exact FV.lit (by kernel_rfl) (by kernel_rfl), _, rfl⟩
    · have hang : angleP (widen Y) (widen X) = angP (ford .f64 (fabs (widen Y)) (fabs (widen X)) == some .gt) (ford .f32 X (some 0) == some .lt) (ford .f32 Y (some 0) == some .lt) (widen Y) (widen X) := by
        unfold angleP
        rw [finx, finy, hfin, if_pos rfl, zx, zy, if_neg hz]
      rw [hang] at hfit ⊢
      refine implAngle_core y x fy fx w hfy hfx _ _ rfl rfl ?_ _ _ _ rfl rfl rfl hfit
      rw [Bool.and_comm]
      simpa using hz
  · have hang : narrow (angleP (widen Y) (widen X)) = none := by
      unfold angleP
      rw [finx, finy, if_neg hfin]
      rfl
    have HA := Lib.hid hang
    clear hang hfit zx zy finx finy
    cases hfy : finite .f32 Y with
    | false =>
      clear hfin
      go_enter Try.func17, Try.ntmps17
      go_wp2_with (first | (go_at_call 40; refine (implIsFinite_any _ (by assumption) _).mono ?_; rintro e w' ⟨rfl, n, rfl⟩) | (go_at_call 35; refine (noNumber_any _).mono ?_; rintro e w' ⟨r, rfl, hr, n, rfl⟩))
      go_ret
      exact ⟨_, rfl, by rw [HA.out]; assumption, _, rfl⟩
    | true =>
      have hfx : finite .f32 X = false := by
        rw [hfy] at hfin
        simpa using hfin
      clear hfin
      go_enter Try.func17, Try.ntmps17
      go_wp2_with (first | (go_at_call 40; refine (implIsFinite_any _ (by assumption) _).mono ?_; rintro e w' ⟨rfl, n, rfl⟩) | (go_at_call 35; refine (noNumber_any _).mono ?_; rintro e w' ⟨r, rfl, hr, n, rfl⟩))
      go_ret
      exact ⟨_, rfl, by rw [HA.out]; assumption, _, rfl⟩
end Go.Proofs.Ytbhndehndfnhiad
