/- Helper: 32-bit numbers without their sign: by way of 64 bits, and by taking from nothing; their sums and their order. Conditions: none. -/
import Derived.Test.YtmjlhmbnaifhaaaFloatBounds
import Derived.Test.YtmjlhmbnaifhaaaFloatFacts
namespace Go.Proofs.Ytmjlhmbnaifhaaa
open Ieee

theorem cut_zero (neg : Bool) (n : Nat) : Toward.even.cut neg n 0 = n := by
  simp [Toward.cut, Nat.mod_one]
theorem log2_shift {m : Nat} (h : m ≠ 0) (k : Nat) : (m <<< k).log2 = m.log2 + k := by
  rw [Nat.shiftLeft_eq]
  have h0 : m * 2 ^ k ≠ 0 := by have := Nat.two_pow_pos k; exact Nat.mul_ne_zero h (by omega)
  have h1 : 2 ^ (m.log2 + k) ≤ m * 2 ^ k := by rw [Nat.pow_add]; exact Nat.mul_le_mul_right _ (Nat.log2_self_le h)
  have h2 : m * 2 ^ k < 2 ^ (m.log2 + 1 + k) := by rw [Nat.pow_add]; exact Nat.mul_lt_mul_of_pos_right Nat.lt_log2_self (Nat.two_pow_pos _)
  have a := (Nat.le_log2 h0).2 h1
  have b := (Nat.log2_lt h0).2 h2
  omega
theorem cut_shift (neg : Bool) {m : Nat} (h : m ≠ 0) (k d : Nat) : Toward.even.cut neg (m <<< k) (d + k) = Toward.even.cut neg m d := by
  unfold Toward.cut
  rw [log2_shift h]
  have hmin : min (d + k) (m.log2 + k + 2) = min d (m.log2 + 2) + k := by omega
  rw [hmin]
  generalize min d (m.log2 + 2) = p
  simp only [Nat.shiftLeft_eq, Nat.one_mul, Nat.pow_add]
  have hk : 0 < 2 ^ k := Nat.two_pow_pos k
  rw [Nat.mul_div_mul_right _ _ hk, Nat.mul_mod_mul_right, ← Nat.mul_assoc]
  generalize m % 2 ^ p = r
  have e1 : decide (2 ^ p * 2 ^ k < 2 * r * 2 ^ k) = decide (2 ^ p < 2 * r) := decide_eq_decide.2 (Nat.mul_lt_mul_right hk)
  have e2 : (2 ^ p * 2 ^ k == 2 * r * 2 ^ k) = (2 ^ p == 2 * r) := by
    rw [Bool.eq_iff_iff, beq_iff_eq, beq_iff_eq]
    exact ⟨fun h => Nat.eq_of_mul_eq_mul_right hk h, fun h => by rw [h]⟩
  rw [e1, e2]
theorem cut_exact (neg : Bool) {m : Nat} (h : m ≠ 0) {k d : Nat} (hd : d ≤ k) : Toward.even.cut neg (m <<< k) d = m <<< (k - d) := by
  have e : m <<< k = (m <<< (k - d)) <<< d := by rw [← Nat.shiftLeft_add]; congr 1; omega
  have h0 : m <<< (k - d) ≠ 0 := by rw [Nat.shiftLeft_eq]; have := Nat.two_pow_pos (k - d); exact Nat.mul_ne_zero h (by omega)
  rw [e]
  have := cut_shift neg h0 d 0
  rw [Nat.zero_add] at this
  rw [this, cut_zero]
/-- What is nearest hangs on the number alone. -/
theorem nearest_shift (f : Format) (neg : Bool) (m : Nat) (e : Int) (k : Nat) : f.nearest neg (m <<< k) (e - k) = f.nearest neg m e := by
  by_cases h : m = 0
  · subst h
    rw [Nat.zero_shiftLeft]
    unfold Format.nearest
    rw [if_pos rfl, if_pos rfl]
  have h0 : m <<< k ≠ 0 := by rw [Nat.shiftLeft_eq]; have := Nat.two_pow_pos k; exact Nat.mul_ne_zero h (by omega)
  unfold Format.nearest
  rw [if_neg h, if_neg h0, log2_shift h]
  have el : max (e - (k : Int) + ((m.log2 + k : Nat) : Int) - (f.fractionBits : Int)) f.leastPlace = max (e + (m.log2 : Int) - (f.fractionBits : Int)) f.leastPlace := by omega
  rw [el]
  generalize max (e + (m.log2 : Int) - (f.fractionBits : Int)) f.leastPlace = last
  have hc : Toward.even.cut neg (m <<< k <<< (e - (k : Int) - last).toNat) (last - (e - (k : Int))).toNat = Toward.even.cut neg (m <<< (e - last).toNat) (last - e).toNat := by
    by_cases h1 : last ≤ e
    · have e1 : (last - e).toNat = 0 := by omega
      rw [e1, cut_zero, ← Nat.shiftLeft_add, cut_exact neg h (by omega)]
      congr 1
      omega
    · have e1 : (e - last).toNat = 0 := by omega
      have e2 : (e - (k : Int) - last).toNat = 0 := by omega
      have e3 : (last - (e - (k : Int))).toNat = (last - e).toNat + k := by omega
      rw [e1, e2, e3, Nat.shiftLeft_zero, Nat.shiftLeft_zero, cut_shift neg h]
  show f.word neg (min ((last - f.leastPlace).toNat * f.binade + Toward.even.cut neg (m <<< k <<< (e - (k : Int) - last).toNat) (last - (e - (k : Int))).toNat) f.infRung) = f.word neg (min ((last - f.leastPlace).toNat * f.binade + Toward.even.cut neg (m <<< (e - last).toNat) (last - e).toNat) f.infRung)
  rw [hc]

/-- A finite 32-bit number, read and written again without its sign. -/
theorem write_read_single {x : Nat} {s : Bool} {m : Nat} {e : Int} (h : single.read x = .number s m e) :
    single.nearest false m e = x % 2147483648 ∧ x % 2147483648 < 2139095040 ∧ (x / 2147483648 % 2 == 1) = s ∧ m < 16777216 ∧ -149 ≤ e ∧ e ≤ 104 := by
  obtain ⟨e1, e2, e3, e4⟩ := single_consts
  have hlt : x % 2147483648 < 2147483648 := Nat.mod_lt _ (by decide)
  unfold Format.read at h
  simp only [e1, e2, e3, e4] at h
  generalize x % 2147483648 = q at *
  have ef : single.fractionBits = 23 := rfl
  split at h
  · rename_i hq
    simp only [Datum.number.injEq] at h
    obtain ⟨hs, hqm, rfl⟩ := h
    subst hqm
    refine ⟨?_, by omega, hs, by omega, by omega, by omega⟩
    unfold Format.nearest Format.word
    split
    · rename_i h0; rw [if_neg (by decide), h0]
    · rename_i h0
      have hl : q.log2 < 23 := (Nat.log2_lt h0).2 hq
      have em : max ((-149 : Int) + (q.log2 : Int) - ((23 : Nat) : Int)) (-149) = -149 := by omega
      simp only [e2, e3, e4, ef]
      rw [em]
      simp only [Int.sub_self, Int.toNat_zero, Nat.shiftLeft_zero, cut_zero]
      rw [if_neg (by decide), Nat.zero_mul, Nat.zero_add, Nat.min_eq_left (by omega)]
  · split at h
    · rename_i hq hq2
      simp only [Datum.number.injEq] at h
      obtain ⟨hs, hm, he⟩ := h
      have hdm : 8388608 * (q / 8388608) + q % 8388608 = q := Nat.div_add_mod q 8388608
      have hb : q % 8388608 < 8388608 := Nat.mod_lt _ (by decide)
      generalize q / 8388608 = a at *
      generalize q % 8388608 = b at *
      have ha : 1 ≤ a := by omega
      have ha2 : a ≤ 254 := by omega
      have hM1 : 8388608 ≤ m := by omega
      have hM2 : m < 16777216 := by omega
      have hee : e = -149 + ((a - 1 : Nat) : Int) := he.symm
      have hsum : (a - 1) * 8388608 + m = q := by omega
      clear hm he hdm hb hq
      refine ⟨?_, hq2, hs, hM2, by omega, by omega⟩
      have h0 : m ≠ 0 := by omega
      have hl : m.log2 = 23 := by
        have a1 := (Nat.log2_lt (k := 24) h0).2 (by omega)
        have b1 := (Nat.le_log2 (k := 23) h0).2 (by omega)
        omega
      unfold Format.nearest Format.word
      rw [if_neg h0, hl]
      simp only [e2, e3, e4, ef]
      have em : max (e + ((23 : Nat) : Int) - ((23 : Nat) : Int)) (-149) = e := by omega
      rw [em]
      simp only [Int.sub_self, Int.toNat_zero, Nat.shiftLeft_zero, cut_zero]
      have et : (e - -149).toNat = a - 1 := by omega
      rw [et, if_neg (by decide), hsum, Nat.min_eq_left (by omega)]
    · split at h <;> cases h

/-- A 32-bit number, widened, is the same number. -/
theorem widen_exact (s : Bool) (m : Nat) (e : Int) (hm : m < 16777216) (h1 : -149 ≤ e) (h2 : e ≤ 104) :
    ∃ k : Nat, double.read (double.write (.number s m e)) = .number s (m <<< k) (e - k) := by
  obtain ⟨e1, e2, e3, e4⟩ := double_consts
  by_cases h0 : m = 0
  · subst h0
    refine ⟨(e + 1074).toNat, ?_⟩
    have : double.write (.number s 0 e) = double.word s 0 := by simp [Format.write, Format.nearest]
    rw [this, read_word64 s 0 (by decide), if_pos (by decide), Nat.zero_shiftLeft]
    congr 1
    omega
  have hlog : m.log2 < 24 := (Nat.log2_lt h0).2 hm
  refine ⟨52 - m.log2, ?_⟩
  have ef : double.fractionBits = 52 := rfl
  have hM : (m <<< (52 - m.log2)).log2 = 52 := by rw [log2_shift h0]; omega
  have hM0 : m <<< (52 - m.log2) ≠ 0 := by rw [Nat.shiftLeft_eq]; have := Nat.two_pow_pos (52 - m.log2); exact Nat.mul_ne_zero h0 (by omega)
  have hM1 := (Nat.le_log2 (k := 52) hM0).1 (Nat.le_of_eq hM.symm)
  have hM2 := (Nat.log2_lt (k := 53) hM0).1 (by rw [hM]; decide)
  obtain ⟨t, ht⟩ : ∃ t : Nat, (e + (m.log2 : Int) + 1022).toNat = t := ⟨_, rfl⟩
  have ht1 : 873 ≤ t := by omega
  have ht2 : t ≤ 1200 := by omega
  have hte : (t : Int) = e + (m.log2 : Int) + 1022 := by omega
  have hk : (((52 - m.log2 : Nat) : Nat) : Int) = 52 - (m.log2 : Int) := by omega
  have em : max (e + (m.log2 : Int) - ((52 : Nat) : Int)) (-1074) = e + (m.log2 : Int) - 52 := by omega
  have d0 : (e + (m.log2 : Int) - 52 - e).toNat = 0 := by omega
  have d1 : (e - (e + (m.log2 : Int) - 52)).toNat = 52 - m.log2 := by omega
  have d2 : (e + (m.log2 : Int) - 52 - -1074).toNat = t := by omega
  generalize hMM : m <<< (52 - m.log2) = M at *
  clear hM hM0
  have hM1' : 4503599627370496 ≤ M := hM1
  have hM2' : M < 9007199254740992 := hM2
  clear hM1 hM2
  have hr : t * 4503599627370496 + M < 9218868437227405312 := by omega
  have hw : double.write (.number s m e) = double.word s (t * 4503599627370496 + M) := by
    simp only [Format.write, Format.nearest]
    rw [if_neg h0]
    simp only [e2, e3, e4, ef]
    rw [em, d0, d1, d2, cut_zero, hMM, Nat.min_eq_left (Nat.le_of_lt hr)]
  have q1 : (t * 4503599627370496 + M) / 4503599627370496 = t + 1 := by omega
  have q2 : (t * 4503599627370496 + M) % 4503599627370496 = M - 4503599627370496 := by omega
  have q3 : 4503599627370496 + (M - 4503599627370496) = M := by omega
  have q4 : (-1074 : Int) + ((t + 1 - 1 : Nat) : Int) = e - ((52 - m.log2 : Nat) : Int) := by omega
  have q5 : ¬ t * 4503599627370496 + M < 4503599627370496 := by omega
  rw [hw, read_word64 s _ hr, if_neg q5, q1, q2, q3, q4]

/-- Without its sign, of 32 bits. -/
def fsize (u : Option Nat) : Option Nat := u.map (· % 2147483648)
theorem abs_size {X : Option Nat} (h : finite .f32 X = true) : narrow (fabs (widen X)) = fsize X := by
  cases X with
  | none => cases h
  | some x =>
    rcases read_single x with ⟨s, hr⟩ | ⟨s, t, hr⟩ | ⟨s, m, e, hr, hm, h1, h2⟩
    · exfalso; unfold finite at h; simp only at h; have hr' : FloatKind.f32.decode x = .infinity s := hr; rw [hr'] at h; cases h
    · exfalso; unfold finite at h; simp only at h; have hr' : FloatKind.f32.decode x = .nan s t := hr; rw [hr'] at h; cases h
    · obtain ⟨w1, _⟩ := write_read_single hr
      obtain ⟨k, hk⟩ := widen_exact s m e hm h1 h2
      have e1 : narrow (fabs (widen (some x))) = some (single.write (double.read (double.write (single.read x) % 9223372036854775808))) := rfl
      rw [e1, read_abs, hr, hk]
      show some (single.nearest false (m <<< k) (e - k)) = some (x % 2147483648)
      rw [nearest_shift, w1]
/-- It is not above nothing. -/
def leZero (u : Option Nat) : Bool := ford .f32 u (some 0) == some .lt || ford .f32 u (some 0) == some .eq
theorem signed_zero (s : Bool) (j : Nat) : signed s 0 j = 0 := by unfold signed; rw [Nat.zero_shiftLeft]; cases s <;> rfl
theorem ford_zero {x : Nat} {s : Bool} {m : Nat} {e : Int} (h : single.read x = .number s m e) (h1 : -149 ≤ e) : ford .f32 (some x) (some 0) = some (compare (signed s m (e + 149).toNat) 0) := by
  have e0 : single.read 0 = .number false 0 (-149) := by decide +kernel
  have : ford .f32 (some x) (some 0) = (single.read x).order (single.read 0) := rfl
  rw [this, h, e0]
  simp only [Datum.order, signed_zero]
  have em : min e (-149) = -149 := by omega
  rw [em]
  congr 3
theorem neg_size {X : Option Nat} (h : finite .f32 X = true) (hw : ∀ x, X = some x → x < 4294967296) : (if leZero X then fop .sub .f32 (some 0) X else X) = fsize X := by
  cases X with
  | none => cases h
  | some x =>
    have hx := hw x rfl
    rcases read_single x with ⟨s, hr⟩ | ⟨s, t, hr⟩ | ⟨s, m, e, hr, hm, h1, h2⟩
    · exfalso; unfold finite at h; simp only at h; have hr' : FloatKind.f32.decode x = .infinity s := hr; rw [hr'] at h; cases h
    · exfalso; unfold finite at h; simp only at h; have hr' : FloatKind.f32.decode x = .nan s t := hr; rw [hr'] at h; cases h
    · obtain ⟨w1, w2, w3, _⟩ := write_read_single hr
      have e0 : single.read 0 = .number false 0 (-149) := by decide +kernel
      have hf := ford_zero hr h1
      have hT : m <<< (e + 149).toNat = 0 ↔ m = 0 := by rw [Nat.shiftLeft_eq]; have := Nat.two_pow_pos (e + 149).toNat; rw [Nat.mul_eq_zero]; omega
      have hsub : single.nearest false (m <<< (e + 149).toNat) (-149) = x % 2147483648 := by
        have := nearest_shift single false m e (e + 149).toNat
        have hee : e - (((e + 149).toNat : Nat) : Int) = -149 := by omega
        rw [hee] at this
        rw [this, w1]
      have hsgn : ∀ s', signed s' m (e + 149).toNat = if s' then -((m <<< (e + 149).toNat : Nat) : Int) else ((m <<< (e + 149).toNat : Nat) : Int) := fun s' => rfl
      have et : (e - -149).toNat = (e + 149).toNat := by omega
      generalize m <<< (e + 149).toNat = T at hT hsub hsgn
      have es : fop .sub .f32 (some 0) (some x) = ((single.read 0).sum (single.read x).opposite).map single.write := rfl
      have em : min (-149 : Int) e = -149 := by omega
      by_cases hneg : s = true ∨ m = 0
      · have hl : leZero (some x) = true := by
          unfold leZero
          rw [hf]
          have : signed s m (e + 149).toNat ≤ 0 := by
            rw [hsgn]
            rcases hneg with rfl | hm0
            · rw [if_pos rfl]; omega
            · rw [hT.2 hm0]; cases s <;> simp
          rcases Int.lt_or_eq_of_le this with h | h
          · rw [Int.compare_eq_lt.2 h]; rfl
          · rw [h]; rfl
        rw [if_pos hl, es, e0, hr]
        simp only [Datum.opposite, Datum.sum, em, signed_zero, Int.zero_add]
        have hsg : signed (!s) m (e - -149).toNat = (T : Int) := by
          rw [et, hsgn]
          rcases hneg with rfl | hm0
          · rfl
          · rw [hT.2 hm0]; cases s <;> rfl
        rw [hsg]
        have hn : (if (T : Int) = 0 then (false && !s) else decide ((T : Int) < 0)) = false := by
          split
          · rfl
          · exact decide_eq_false (by omega)
        rw [hn]
        show some (single.nearest false ((T : Int)).natAbs (-149)) = some (x % 2147483648)
        rw [Int.natAbs_natCast, hsub]
      · have hs0 : s = false := by cases s <;> simp_all
        have hm0 : m ≠ 0 := fun h => hneg (.inr h)
        subst hs0
        have hl : leZero (some x) = false := by
          unfold leZero
          rw [hf]
          have : 0 < signed false m (e + 149).toNat := by
            rw [hsgn, if_neg (by decide)]
            have := mt hT.1 hm0
            omega
          rw [Int.compare_eq_gt.2 this]; rfl
        rw [if_neg (by rw [hl]; decide)]
        show some x = some (x % 2147483648)
        congr 1
        have : x / 2147483648 % 2 ≠ 1 := by intro h; rw [h] at w3; cases w3
        omega

/-- A number without a sign, or the greatest infinity. -/
def Pz (u : Option Nat) : Prop := ∃ q, u = some q ∧ q ≤ 2139095040
theorem read_pz {q : Nat} (h : q ≤ 2139095040) : single.read q = .infinity false ∨ ∃ m e, single.read q = .number false m e := by
  obtain ⟨e1, e2, e3, e4⟩ := single_consts
  have hm : q % 2147483648 = q := Nat.mod_eq_of_lt (by omega)
  have hd : q / 2147483648 = 0 := Nat.div_eq_of_lt (by omega)
  unfold Format.read
  simp only [e1, e2, e3, e4, hm, hd]
  split
  · exact .inr ⟨_, _, rfl⟩
  · split
    · exact .inr ⟨_, _, rfl⟩
    · rw [if_pos (by omega)]; exact .inl rfl
theorem nearest_pz (m : Nat) (e : Int) : single.nearest false m e ≤ 2139095040 := by
  obtain ⟨e1, e2, e3, e4⟩ := single_consts
  unfold Format.nearest Format.word
  split
  · simp
  · rw [if_neg (by decide), e3]
    exact Nat.min_le_right _ _
theorem signed_nonneg (m j : Nat) : 0 ≤ signed false m j := by
  show (0 : Int) ≤ ((m <<< j : Nat) : Int)
  exact Int.natCast_nonneg _
theorem Pz.zero : Pz (some 0) := ⟨0, rfl, by omega⟩
theorem Pz.size {X : Option Nat} (h : finite .f32 X = true) : Pz (fsize X) := by
  cases X with
  | none => cases h
  | some x =>
    rcases read_single x with ⟨s, hr⟩ | ⟨s, t, hr⟩ | ⟨s, m, e, hr, hm, h1, h2⟩
    · exfalso; unfold finite at h; simp only at h; have hr' : FloatKind.f32.decode x = .infinity s := hr; rw [hr'] at h; cases h
    · exfalso; unfold finite at h; simp only at h; have hr' : FloatKind.f32.decode x = .nan s t := hr; rw [hr'] at h; cases h
    · obtain ⟨_, w2, _⟩ := write_read_single hr
      exact ⟨_, rfl, Nat.le_of_lt w2⟩
theorem Pz.add {X Y : Option Nat} (hx : Pz X) (hy : Pz Y) : Pz (fop .add .f32 X Y) := by
  obtain ⟨a, rfl, ha⟩ := hx
  obtain ⟨b, rfl, hb⟩ := hy
  have es : fop .add .f32 (some a) (some b) = ((single.read a).sum (single.read b)).map single.write := rfl
  rw [es]
  have hi : single.write (.infinity false) ≤ 2139095040 := by decide +kernel
  rcases read_pz ha with h1 | ⟨m, e, h1⟩ <;> rcases read_pz hb with h2 | ⟨n, f, h2⟩ <;> rw [h1, h2]
  · exact ⟨_, rfl, hi⟩
  · exact ⟨_, rfl, hi⟩
  · exact ⟨_, rfl, hi⟩
  · simp only [Datum.sum]
    have hn : ∀ t : Int, 0 ≤ t → (if t = 0 then (false && false) else decide (t < 0)) = false := by
      intro t ht
      split
      · rfl
      · exact decide_eq_false (by omega)
    rw [hn _ (Int.add_nonneg (signed_nonneg _ _) (signed_nonneg _ _))]
    exact ⟨_, rfl, nearest_pz _ _⟩
/-- Two of them stand in an order. -/
theorem Pz.order {a b : Nat} (ha : a ≤ 2139095040) (hb : b ≤ 2139095040) :
    (ford .f32 (some a) (some b) = some .lt ∧ ford .f32 (some b) (some a) = some .gt) ∨ (ford .f32 (some a) (some b) = some .gt ∧ ford .f32 (some b) (some a) = some .lt) ∨ (ford .f32 (some a) (some b) = some .eq ∧ ford .f32 (some b) (some a) = some .eq) := by
  have e1 : ford .f32 (some a) (some b) = (single.read a).order (single.read b) := rfl
  have e2 : ford .f32 (some b) (some a) = (single.read b).order (single.read a) := rfl
  rw [e1, e2]
  rcases read_pz ha with h1 | ⟨m, e, h1⟩ <;> rcases read_pz hb with h2 | ⟨n, f, h2⟩ <;> rw [h1, h2]
  · exact .inr (.inr ⟨rfl, rfl⟩)
  · exact .inr (.inl ⟨rfl, rfl⟩)
  · exact .inl ⟨rfl, rfl⟩
  · simp only [Datum.order]
    rw [Int.min_comm f e]
    generalize signed false m (e - min e f).toNat = x
    generalize signed false n (f - min e f).toNat = y
    rcases Int.lt_trichotomy x y with h | h | h
    · exact .inl ⟨by rw [Int.compare_eq_lt.2 h], by rw [Int.compare_eq_gt.2 h]⟩
    · subst h; exact .inr (.inr ⟨by rw [Int.compare_eq_eq.2 rfl], by rw [Int.compare_eq_eq.2 rfl]⟩)
    · exact .inr (.inl ⟨by rw [Int.compare_eq_gt.2 h], by rw [Int.compare_eq_lt.2 h]⟩)
theorem neg_pz {a : Nat} (ha : a ≤ 2139095040) : (FloatKind.f32.decode a).neg = false := by
  have : FloatKind.f32.decode a = single.read a := rfl
  rw [this]
  rcases read_pz ha with h1 | ⟨m, e, h1⟩ <;> rw [h1] <;> rfl
theorem cn_pz {a : Nat} (ha : a ≤ 2139095040) : cn .f32 a = some a := cn_of (by
  have : FloatKind.f32.decode a = single.read a := rfl
  rw [this]
  rcases read_pz ha with h1 | ⟨m, e, h1⟩ <;> rw [h1] <;> rfl)
theorem fits_size {X : Option Nat} (h : finite .f32 X = true) : fits (fabs (widen X)) := by
  intro y hy
  right
  have h1 := abs_size h
  rw [hy] at h1
  cases X with
  | none => cases h
  | some x =>
    rcases read_single x with ⟨s, hr⟩ | ⟨s, t, hr⟩ | ⟨s, m, e, hr, _⟩
    · exfalso; unfold finite at h; simp only at h; have hr' : FloatKind.f32.decode x = .infinity s := hr; rw [hr'] at h; cases h
    · exfalso; unfold finite at h; simp only at h; have hr' : FloatKind.f32.decode x = .nan s t := hr; rw [hr'] at h; cases h
    · obtain ⟨_, w2, _⟩ := write_read_single hr
      have h2 : FloatKind.f32.encode (FloatKind.f64.decode y) = x % 2147483648 := Option.some.inj h1
      rw [h2]
      generalize x % 2147483648 = q at w2
      obtain ⟨e1, e2, e3, e4⟩ := single_consts
      have hm : q % 2147483648 = q := Nat.mod_eq_of_lt (by omega)
      show (single.read q).isInfinity = false
      unfold Format.read
      simp only [e1, e2, e3, e4, hm]
      by_cases hq : q < 8388608
      · rw [if_pos hq]; rfl
      · rw [if_neg hq, if_pos w2]; rfl
theorem ford_some {X : Option Nat} (h : finite .f32 X = true) : ∃ o, ford .f32 X (some 0) = some o := by
  cases X with
  | none => cases h
  | some x =>
    rcases read_single x with ⟨s, hr⟩ | ⟨s, t, hr⟩ | ⟨s, m, e, hr, _, h1, _⟩
    · exfalso; unfold finite at h; simp only at h; have hr' : FloatKind.f32.decode x = .infinity s := hr; rw [hr'] at h; cases h
    · exfalso; unfold finite at h; simp only at h; have hr' : FloatKind.f32.decode x = .nan s t := hr; rw [hr'] at h; cases h
    · exact ⟨_, ford_zero hr h1⟩
/-- The sums of the rows without signs, and the greatest of them. -/
def rowS (V : Nat → Option Nat) (c i : Nat) : Nat → Option Nat
  | 0 => some 0
  | k + 1 => fop .add .f32 (rowS V c i k) (fsize (V (i * c + k)))
def pickMax (G S : Option Nat) : Option Nat := if ford .f32 S G == some .gt then S else G
def gr (V : Nat → Option Nat) (c : Nat) : Nat → Option Nat
  | 0 => some 0
  | i + 1 => pickMax (gr V c i) (rowS V c i c)
theorem rowS_succ (V : Nat → Option Nat) (c i k : Nat) : fop .add .f32 (rowS V c i k) (fsize (V (i * c + k))) = rowS V c i (k + 1) := rfl
theorem Pz.rowS {V : Nat → Option Nat} {c i : Nat} : ∀ {k}, (∀ j, j < k → finite .f32 (V (i * c + j)) = true) → Pz (rowS V c i k)
  | 0, _ => Pz.zero
  | k + 1, h => Pz.add (Pz.rowS fun j hj => h j (by omega)) (Pz.size (h k (by omega)))
theorem Pz.gr {V : Nat → Option Nat} {c : Nat} : ∀ {i}, (∀ j, j < i * c → finite .f32 (V j) = true) → Pz (gr V c i)
  | 0, _ => Pz.zero
  | i + 1, h => by
    have h1 : (i + 1) * c = i * c + c := by rw [Nat.add_mul, Nat.one_mul]
    unfold Go.Proofs.Ytmjlhmbnaifhaaa.gr pickMax
    split
    · exact Pz.rowS fun j hj => h _ (by omega)
    · exact Pz.gr fun j hj => h _ (by omega)
end Go.Proofs.Ytmjlhmbnaifhaaa
