/- Helper: what is divided by a length is no infinity: bounds from below of squares, sums, roots, of 32 bits. Conditions: none. -/
import Derived.Test.YtmjlhmbnaifhaacFloatBounds
import Derived.Test.YtmjlhmbnaifhaacFloatRoots
import Derived.Test.YtmjlhmbnaifhaacSizeFacts
import Derived.Test.YtmjlhmbnaifhaacVecSums
set_option linter.unusedVariables false
set_option linter.unusedSimpArgs false
namespace Go.Proofs.Ytmjlhmbnaifhaac
open Ieee

theorem cut_low (neg : Bool) (n d : Nat) (h : d ≤ n.log2 + 2) : n / 2 ^ d ≤ Toward.even.cut neg n d := by
  unfold Toward.cut
  rw [Nat.min_eq_left h, Nat.shiftLeft_eq, Nat.one_mul]
  exact Nat.le_add_right _ _
theorem log2_shl {m k : Nat} (h : m ≠ 0) : (m <<< k).log2 = m.log2 + k := log2_shift h k
/-- A number of at least 2 to the power of j is written as one of at least that. -/
theorem nearest_ge {f : Format} {fb : Nat} {lp : Int} {top : Nat} (hb : f.binade = 2 ^ fb) (hf : f.fractionBits = fb) (hl : f.leastPlace = lp) (ht : f.infRung = top) {m : Nat} {e j : Int} (h0 : m ≠ 0) (h : j ≤ (m.log2 : Int) + e) (hj : lp + fb ≤ j) (hj2 : (j - lp - fb + 1).toNat * 2 ^ fb ≤ top) :
    (j - lp - fb + 1).toNat * 2 ^ fb ≤ f.nearest false m e := by
  unfold Format.nearest Format.word
  rw [if_neg h0]
  simp only [hb, hf, hl, ht]
  rw [if_neg (by decide)]
  refine Nat.le_min.2 ⟨?_, hj2⟩
  have em : max (e + (m.log2 : Int) - (fb : Int)) lp = e + (m.log2 : Int) - fb := by omega
  rw [em]
  obtain ⟨last, hlast⟩ : ∃ last, last = e + (m.log2 : Int) - fb := ⟨_, rfl⟩
  rw [← hlast]
  have hM0 : m <<< (e - last).toNat ≠ 0 := by rw [Nat.shiftLeft_eq]; have := Nat.two_pow_pos (e - last).toNat; exact Nat.mul_ne_zero h0 (by omega)
  have hlog : (m <<< (e - last).toNat).log2 = m.log2 + (e - last).toNat := log2_shl h0
  have hd : (last - e).toNat ≤ (m <<< (e - last).toNat).log2 + 2 := by rw [hlog]; omega
  have hc := cut_low false (m <<< (e - last).toNat) (last - e).toNat hd
  have hk : 2 ^ fb ≤ m <<< (e - last).toNat / 2 ^ (last - e).toNat := by
    rw [Nat.le_div_iff_mul_le (Nat.two_pow_pos _), ← Nat.pow_add]
    refine Nat.le_trans ?_ (Nat.log2_self_le hM0)
    rw [hlog]
    exact Nat.pow_le_pow_right (by decide) (by omega)
  have hs : (j - lp - fb + 1).toNat ≤ (last - lp).toNat + 1 := by omega
  calc (j - lp - fb + 1).toNat * 2 ^ fb ≤ ((last - lp).toNat + 1) * 2 ^ fb := Nat.mul_le_mul_right _ hs
    _ = (last - lp).toNat * 2 ^ fb + 2 ^ fb := by rw [Nat.add_mul, Nat.one_mul]
    _ ≤ (last - lp).toNat * 2 ^ fb + Toward.even.cut false (m <<< (e - last).toNat) (last - e).toNat := Nat.add_le_add_left (Nat.le_trans hk hc) _
/-- The rung of 2 to the power of j, of 32 bits. -/
def rg (j : Int) : Nat := (j + 127).toNat * 8388608
theorem nearest_ge32 {m : Nat} {e j : Int} (h0 : m ≠ 0) (h : j ≤ (m.log2 : Int) + e) (hj : -126 ≤ j) (hj2 : j ≤ 128) : rg j ≤ single.nearest false m e := by
  obtain ⟨e1, e2, e3, e4⟩ := single_consts
  have := nearest_ge (f := single) (fb := 23) (lp := -149) (top := 2139095040) (m := m) (e := e) (j := j) (by rw [e2]) rfl e4 e3 h0 h (by omega) (by omega)
  have e5 : (j - -149 - ((23 : Nat) : Int) + 1).toNat = (j + 127).toNat := by omega
  rw [e5] at this
  exact this
theorem nearest_ge64 {m : Nat} {e j : Int} (h0 : m ≠ 0) (h : j ≤ (m.log2 : Int) + e) (hj : -1022 ≤ j) (hj2 : j ≤ 1024) : (j + 1023).toNat * 4503599627370496 ≤ double.nearest false m e := by
  obtain ⟨e1, e2, e3, e4⟩ := double_consts
  have := nearest_ge (f := double) (fb := 52) (lp := -1074) (top := 9218868437227405312) (m := m) (e := e) (j := j) (by rw [e2]) rfl e4 e3 h0 h (by omega) (by omega)
  have e5 : (j - -1074 - ((52 : Nat) : Int) + 1).toNat = (j + 1023).toNat := by omega
  rw [e5] at this
  exact this
theorem log2_eq23 {m : Nat} (h1 : 8388608 ≤ m) (h2 : m < 16777216) : m.log2 = 23 := by
  have a1 := (Nat.log2_lt (n := m) (k := 24) (by omega)).2 (by omega)
  have b1 := (Nat.le_log2 (n := m) (k := 23) (by omega)).2 (by omega)
  omega
theorem read_ge32 {q : Nat} {j : Int} (hq : q < 2139095040) (h : rg j ≤ q) (hj : -126 ≤ j) : ∃ m e, single.read q = .number false m e ∧ m ≠ 0 ∧ j ≤ (m.log2 : Int) + e := by
  obtain ⟨e1, e2, e3, e4⟩ := single_consts
  unfold rg at h
  have hm : q % 2147483648 = q := Nat.mod_eq_of_lt (by omega)
  have hd : (q / 2147483648 % 2 == 1) = false := by have : q / 2147483648 = 0 := Nat.div_eq_of_lt (by omega); rw [this]; rfl
  have hb : ¬ q < 8388608 := by omega
  refine ⟨8388608 + q % 8388608, -149 + ((q / 8388608 - 1 : Nat) : Int), ?_, by omega, ?_⟩
  · unfold Format.read
    simp only [e1, e2, e3, e4, hm, hd]
    rw [if_neg hb, if_pos hq]
  · rw [log2_eq23 (by omega) (by omega)]
    omega
theorem read_ge64 {q : Nat} {j : Int} (hq : q < 9218868437227405312) (h : (j + 1023).toNat * 4503599627370496 ≤ q) (hj : -1022 ≤ j) : ∃ m e, double.read q = .number false m e ∧ m ≠ 0 ∧ j ≤ (m.log2 : Int) + e := by
  have hw : double.word false q = q := rfl
  have hr := read_word64 false q hq
  rw [hw, if_neg (by omega)] at hr
  refine ⟨_, _, hr, by omega, ?_⟩
  rw [log2_eq52 (by omega) (by omega)]
  omega
/-- A sum of numbers without signs is not below one of them. -/
theorem sum_ge {a b : Nat} {j : Int} (ha : a ≤ 2139095040) (hb : b ≤ 2139095040) (hj : -126 ≤ j) (hj2 : j ≤ 128) (h : rg j ≤ a ∨ rg j ≤ b) : ∃ r, fop .add .f32 (some a) (some b) = some r ∧ r ≤ 2139095040 ∧ rg j ≤ r := by
  obtain ⟨r, hr, hr2⟩ := Pz.add ⟨a, rfl, ha⟩ ⟨b, rfl, hb⟩
  refine ⟨r, hr, hr2, ?_⟩
  have es : fop .add .f32 (some a) (some b) = ((single.read a).sum (single.read b)).map single.write := rfl
  rw [es] at hr
  have hinf : single.write (.infinity false) = 2139095040 := by decide +kernel
  have htop : rg j ≤ 2139095040 := by unfold rg; omega
  rcases read_pz ha with h1 | ⟨m, e, h1⟩
  · rcases read_pz hb with h2 | ⟨n, f, h2⟩
    · rw [h1, h2] at hr
      have : single.write (.infinity false) = r := by simpa [Datum.sum] using hr
      omega
    · rw [h1, h2] at hr
      have : single.write (.infinity false) = r := by simpa [Datum.sum] using hr
      omega
  rcases read_pz hb with h2 | ⟨n, f, h2⟩
  · rw [h1, h2] at hr
    have : single.write (.infinity false) = r := by simpa [Datum.sum] using hr
    omega
  have ha' : a < 2139095040 := by
    rcases Nat.lt_or_ge a 2139095040 with q | q
    · exact q
    · have : a = 2139095040 := by omega
      subst this
      have hx : single.read 2139095040 = .infinity false := by decide +kernel
      rw [hx] at h1; cases h1
  have hb' : b < 2139095040 := by
    rcases Nat.lt_or_ge b 2139095040 with q | q
    · exact q
    · have : b = 2139095040 := by omega
      subst this
      have hx : single.read 2139095040 = .infinity false := by decide +kernel
      rw [hx] at h2; cases h2
  rw [h1, h2] at hr
  simp only [Datum.sum, Option.map_some, Option.some.injEq] at hr
  have hsa : signed false m (e - min e f).toNat = ((m <<< (e - min e f).toNat : Nat) : Int) := rfl
  have hsb : signed false n (f - min e f).toNat = ((n <<< (f - min e f).toNat : Nat) : Int) := rfl
  have hA0 : m ≠ 0 → m <<< (e - min e f).toNat ≠ 0 := fun q => by rw [Nat.shiftLeft_eq]; have := Nat.two_pow_pos (e - min e f).toNat; exact Nat.mul_ne_zero q (by omega)
  have hB0 : n ≠ 0 → n <<< (f - min e f).toNat ≠ 0 := fun q => by rw [Nat.shiftLeft_eq]; have := Nat.two_pow_pos (f - min e f).toNat; exact Nat.mul_ne_zero q (by omega)
  have hAl : m ≠ 0 → (m <<< (e - min e f).toNat).log2 = m.log2 + (e - min e f).toNat := fun q => log2_shl q
  have hBl : n ≠ 0 → (n <<< (f - min e f).toNat).log2 = n.log2 + (f - min e f).toNat := fun q => log2_shl q
  rw [hsa, hsb, ← Int.natCast_add] at hr
  generalize m <<< (e - min e f).toNat = A at *
  generalize n <<< (f - min e f).toNat = B at *
  have hneg : (if ((A + B : Nat) : Int) = 0 then (false && false) else decide (((A + B : Nat) : Int) < 0)) = false := by
    split
    · rfl
    · exact decide_eq_false (by omega)
  rw [hneg, Int.natAbs_natCast] at hr
  have hr' : single.nearest false (A + B) (min e f) = r := hr
  rw [← hr']
  rcases h with h | h
  · obtain ⟨m', e', q1, q2, q3⟩ := read_ge32 ha' h hj
    rw [h1] at q1
    simp only [Datum.number.injEq, true_and] at q1
    obtain ⟨rfl, rfl⟩ := q1
    have hM0 := hA0 q2
    refine nearest_ge32 (by omega) ?_ hj hj2
    have hl : A.log2 ≤ (A + B).log2 := (Nat.le_log2 (by omega)).2 (Nat.le_trans (Nat.log2_self_le hM0) (Nat.le_add_right _ _))
    rw [hAl q2] at hl
    omega
  · obtain ⟨m', e', q1, q2, q3⟩ := read_ge32 hb' h hj
    rw [h2] at q1
    simp only [Datum.number.injEq, true_and] at q1
    obtain ⟨rfl, rfl⟩ := q1
    have hM0 := hB0 q2
    refine nearest_ge32 (by omega) ?_ hj hj2
    have hl : B.log2 ≤ (A + B).log2 := (Nat.le_log2 (by omega)).2 (Nat.le_trans (Nat.log2_self_le hM0) (Nat.le_add_left _ _))
    rw [hBl q2] at hl
    omega
/-- The square of a great number is great. -/
theorem sq_ge {x : Nat} {s : Bool} {m : Nat} {e : Int} (hr : single.read x = .number s m e) (hm : m ≠ 0) (h : 50 ≤ (m.log2 : Int) + e) : ∃ r, fop .mul .f32 (some x) (some x) = some r ∧ r ≤ 2139095040 ∧ rg 100 ≤ r := by
  have es : fop .mul .f32 (some x) (some x) = ((single.read x).product (single.read x)).map single.write := rfl
  rw [es, hr]
  have e0 : (s ^^ s) = false := by cases s <;> rfl
  refine ⟨single.nearest (s ^^ s) (m * m) (e + e), rfl, ?_, ?_⟩
  · rw [e0]; exact nearest_pz _ _
  · rw [e0]
    have hmm : m * m ≠ 0 := Nat.mul_ne_zero hm hm
    refine nearest_ge32 hmm ?_ (by omega) (by omega)
    have h1 : m.log2 + m.log2 ≤ (m * m).log2 := (Nat.le_log2 hmm).2 (by rw [Nat.pow_add]; exact Nat.mul_le_mul (Nat.log2_self_le hm) (Nat.log2_self_le hm))
    omega
theorem dot_pz {V : Nat → Option Nat} : ∀ {n : Nat}, (∀ i, i < n → finite .f32 (V i) = true) → (∀ i, i < n → Pz (fop .mul .f32 (V i) (V i))) → Pz (dotG V V n)
  | 0, _, _ => Pz.zero
  | n + 1, h, hs => Pz.add (dot_pz (fun i hi => h i (by omega)) (fun i hi => hs i (by omega))) (hs n (by omega))
theorem dot_ge {V : Nat → Option Nat} {i : Nat} (hi : ∃ r, fop .mul .f32 (V i) (V i) = some r ∧ r ≤ 2139095040 ∧ rg 100 ≤ r) : ∀ {n : Nat}, i < n → (∀ k, k < n → finite .f32 (V k) = true) → (∀ k, k < n → Pz (fop .mul .f32 (V k) (V k))) → ∃ q, dotG V V n = some q ∧ q ≤ 2139095040 ∧ rg 100 ≤ q
  | 0, h, _, _ => by omega
  | n + 1, h, hf, hs => by
    obtain ⟨a, ha, ha2⟩ := dot_pz (V := V) (n := n) (fun k hk => hf k (by omega)) (fun k hk => hs k (by omega))
    obtain ⟨b, hb, hb2⟩ := hs n (by omega)
    have hh : rg 100 ≤ a ∨ rg 100 ≤ b := by
      by_cases e : i = n
      · subst e
        obtain ⟨r, h1, _, h3⟩ := hi
        rw [hb] at h1
        simp only [Option.some.injEq] at h1
        exact .inr (by omega)
      · obtain ⟨q, h1, _, h3⟩ := dot_ge hi (n := n) (by omega) (fun k hk => hf k (by omega)) (fun k hk => hs k (by omega))
        rw [ha] at h1
        simp only [Option.some.injEq] at h1
        exact .inl (by omega)
    obtain ⟨r, h1, h2, h3⟩ := sum_ge (j := 100) ha2 hb2 (by omega) (by omega) hh
    refine ⟨r, ?_, h2, h3⟩
    show fop .add .f32 (dotG V V n) (fop .mul .f32 (V n) (V n)) = _
    rw [ha, hb]; exact h1
theorem rootFrom_ge (n : Nat) : ∀ todo root, root ≤ Datum.rootFrom n todo root := by
  intro todo
  induction todo with
  | zero => intro root; exact Nat.le_refl _
  | succ k ih =>
    intro root
    simp only [Datum.rootFrom]
    refine Nat.le_trans ?_ (ih _)
    generalize 1 <<< k = t
    split <;> omega
theorem rootFrom_top {n : Nat} (h : n ≠ 0) : 2 ^ (n.log2 / 2) ≤ Datum.rootFrom n (n.log2 / 2 + 1) 0 := by
  simp only [Datum.rootFrom]
  refine Nat.le_trans ?_ (rootFrom_ge _ _ _)
  rw [Nat.zero_add, Nat.shiftLeft_eq, Nat.one_mul, ← Nat.pow_add, if_pos]
  · exact Nat.le_refl _
  · exact Nat.le_trans (Nat.pow_le_pow_right (by decide) (by omega)) (Nat.log2_self_le h)
/-- The length is not far below the sum of squares' root. -/
theorem root_ge {q : Nat} {m : Nat} {e j : Int} (hr : single.read q = .number false m e) (hm0 : m ≠ 0) (hm : m < 16777216) (h1 : -149 ≤ e) (h2 : e ≤ 104) (hj : 2 * j ≤ (m.log2 : Int) + e) (hj1 : -126 ≤ j) (hj2 : j ≤ 64) :
    ∃ r, narrow (fsqrt (widen (some q))) = some r ∧ rg j ≤ r ∧ r ≤ 2139095040 := by
  obtain ⟨k, hk⟩ := widen_exact false m e hm h1 h2
  have hL2 : Lt2 (2 * 65) (widen (some q)) := by
    have hfin : finite .f32 (some q) = true := by
      have hd : finite .f32 (some q) = (match single.read q with | .number .. => true | _ => false) := rfl
      rw [hd, hr]
    exact (widen_lt2 hfin).mono (by omega)
  have hw : widen (some q) = some (double.write (.number false m e)) := by
    show some (double.write (single.read q)) = _
    rw [hr]
  rw [hw] at hL2 ⊢
  have hsq := Lt2.sqrt hL2 (fun x m' e' hx hx2 => by
    simp only [Option.some.injEq] at hx
    subst hx
    rw [hk] at hx2
    cases hx2) (by omega) (by omega)
  have e1 : fsqrt (some (double.write (.number false m e))) = ((double.read (double.write (.number false m e))).root 54).map double.write := rfl
  have hmk : m <<< k ≠ 0 := by rw [Nat.shiftLeft_eq]; have := Nat.two_pow_pos k; exact Nat.mul_ne_zero hm0 (by omega)
  have hlk : (m <<< k).log2 = m.log2 + k := log2_shl hm0
  rw [e1, hk] at hsq ⊢
  simp only [Datum.root, if_neg hmk, Bool.false_eq_true, if_false, Option.map_some] at hsq ⊢
  generalize hM : m <<< k = M at *
  generalize hE : e - (k : Int) = E at *
  have hME : 2 * j ≤ (M.log2 : Int) + E := by omega
  generalize hqq : (((E - ((2 * 54 - M.log2 : Nat) : Int)) % 2).toNat) = z at *
  have hz1 : z ≤ 1 := by omega
  have hz2 : (E - ((2 * 54 - M.log2 : Nat) : Int) - (z : Int)) % 2 = 0 := by omega
  generalize hmore : 2 * 54 - M.log2 = mr at *
  have hmr : ((mr + z : Nat) : Int) = (mr : Int) + (z : Int) := by omega
  generalize hmm : mr + z = more at *
  have hn0 : M <<< more ≠ 0 := by rw [Nat.shiftLeft_eq]; have := Nat.two_pow_pos more; exact Nat.mul_ne_zero hmk (by omega)
  have hnl : (M <<< more).log2 = M.log2 + more := log2_shl hmk
  generalize hn : M <<< more = n at *
  have hroot := rootFrom_top hn0
  generalize Datum.rootFrom n (n.log2 / 2 + 1) 0 = whole at *
  generalize (whole * whole != n) = bb at *
  have hp := Nat.two_pow_pos (n.log2 / 2)
  have hw0 : 2 * whole + bb.toNat ≠ 0 := by omega
  have hlw : n.log2 / 2 + 1 ≤ (2 * whole + bb.toNat).log2 := (Nat.le_log2 hw0).2 (by rw [Nat.pow_succ]; omega)
  have hj3 : j ≤ ((2 * whole + bb.toNat).log2 : Int) + ((E - (more : Int)) / 2 - 1) := by omega
  have h64 := nearest_ge64 (j := j) hw0 hj3 (by omega) (by omega)
  obtain ⟨x, sx, mx, ex, hx, hx2, -⟩ := hsq
  simp only [Option.some.injEq] at hx
  have hx' : double.nearest false (2 * whole + bb.toNat) ((E - (more : Int)) / 2 - 1) = x := hx
  rw [hx'] at h64
  have hlt : x < 9218868437227405312 := by
    have hle : x ≤ 9218868437227405312 := by
      rw [← hx']
      obtain ⟨d1, d2, d3, d4⟩ := double_consts
      unfold Format.nearest Format.word
      split
      · simp
      · rw [if_neg (by decide), d3]; exact Nat.min_le_right _ _
    rcases Nat.lt_or_ge x 9218868437227405312 with q | q
    · exact q
    · have : x = 9218868437227405312 := by omega
      subst this
      have hi : double.read 9218868437227405312 = .infinity false := by decide +kernel
      rw [hi] at hx2; cases hx2
  obtain ⟨m3, e3, hr3, hm3, hj4⟩ := read_ge64 hlt h64 (by omega)
  refine ⟨single.nearest false m3 e3, ?_, nearest_ge32 hm3 hj4 hj1 (by omega), nearest_pz _ _⟩
  show narrow (some (double.nearest false (2 * whole + bb.toNat) ((E - (more : Int)) / 2 - 1))) = _
  rw [hx']
  show some (single.write (double.read x)) = _
  rw [hr3]; rfl
theorem quo_lt {c : Int} {m n : Nat} {e f : Int} (hn : n ≠ 0) (h : m = 0 ∨ (m.log2 : Int) + e - ((n.log2 : Int) + f) < c) (b : Bool) (more : Nat) (hmore : n.log2 ≤ m.log2 + 1 + more) :
    lt2 c (2 * (m <<< more / n) + b.toNat) (e - f - more - 1) ∨ m = 0 := by
  by_cases hm : m = 0
  · exact .inr hm
  left
  have h' : (m.log2 : Int) + e - ((n.log2 : Int) + f) < c := by rcases h with h | h; exact absurd h hm; exact h
  have hq : m <<< more / n < 2 ^ (m.log2 + 1 + more - n.log2) := by
    rw [Nat.shiftLeft_eq, Nat.div_lt_iff_lt_mul (by omega)]
    have h1 : m * 2 ^ more < 2 ^ (m.log2 + 1) * 2 ^ more := Nat.mul_lt_mul_of_pos_right (lt_log2' m) (Nat.two_pow_pos _)
    rw [← Nat.pow_add] at h1
    have h2 : 2 ^ (m.log2 + 1 + more - n.log2) * 2 ^ n.log2 ≤ 2 ^ (m.log2 + 1 + more - n.log2) * n := Nat.mul_le_mul_left _ (log2_le' hn)
    rw [← Nat.pow_add] at h2
    have h3 : m.log2 + 1 + more - n.log2 + n.log2 = m.log2 + 1 + more := by omega
    rw [h3] at h2
    omega
  have hb : b.toNat ≤ 1 := Bool.toNat_le b
  have hz : 2 * (m <<< more / n) + b.toNat < 2 ^ (m.log2 + 1 + more - n.log2 + 1) := by rw [Nat.pow_succ]; omega
  by_cases h0 : 2 * (m <<< more / n) + b.toNat = 0
  · exact .inl h0
  · have := log2_lt' h0 hz
    exact .inr (by omega)
/-- A number below 2 to the power of 127 is written as a finite one. -/
theorem write_fin {s : Bool} {m : Nat} {e : Int} (h : lt2 127 m e) : finite .f32 (some (single.write (.number s m e))) = true := by
  obtain ⟨e1, e2, e3, e4⟩ := single_consts
  have ef : single.fractionBits = 23 := rfl
  have hd : finite .f32 (some (single.write (.number s m e))) = (match single.read (single.write (.number s m e)) with | .number .. => true | _ => false) := rfl
  rw [hd]
  obtain ⟨r, hr, hlt⟩ : ∃ r, single.write (.number s m e) = single.word s r ∧ r < 2139095040 := by
    show ∃ r, single.nearest s m e = single.word s r ∧ r < 2139095040
    unfold Format.nearest
    by_cases h0 : m = 0
    · rw [if_pos h0]; exact ⟨0, rfl, by omega⟩
    · rw [if_neg h0]
      have hl : (m.log2 : Int) + e < 127 := by rcases h with h | h; exact absurd h h0; exact h
      simp only [e2, e3, e4, ef]
      refine ⟨_, rfl, ?_⟩
      have hk := kept_le' s m e (max (e + (m.log2 : Int) - ((23 : Nat) : Int)) (-149)) 23 (by omega)
      have h24 : (2 : Nat) ^ (23 + 1) = 16777216 := by decide
      rw [h24] at hk
      generalize Toward.even.cut s (m <<< (e - max (e + (m.log2 : Int) - ((23 : Nat) : Int)) (-149)).toNat) (max (e + (m.log2 : Int) - ((23 : Nat) : Int)) (-149) - e).toNat = kept at hk ⊢
      have hq : (max (e + (m.log2 : Int) - ((23 : Nat) : Int)) (-149) - -149).toNat ≤ 252 := by omega
      refine Nat.lt_of_le_of_lt (Nat.min_le_left _ _) ?_
      have : (max (e + (m.log2 : Int) - ((23 : Nat) : Int)) (-149) - -149).toNat * 8388608 ≤ 252 * 8388608 := Nat.mul_le_mul_right _ hq
      omega
  rw [hr]
  have hm : single.word s r % 2147483648 = r := by
    unfold Format.word; rw [e1]; split <;> omega
  unfold Format.read
  simp only [e1, e2, e3, e4, hm]
  by_cases hq : r < 8388608
  · rw [if_pos hq]
  · rw [if_neg hq, if_pos hlt]
/-- What is divided by its length is finite. -/
theorem quo_fin {x q : Nat} {s : Bool} {m : Nat} {e : Int} {n : Nat} {f i j : Int} (hx : single.read x = .number s m e) (hq : single.read q = .number false n f) (hn : n ≠ 0) (hm : m < 16777216) (hn2 : n < 16777216) (hi : m = 0 ∨ (m.log2 : Int) + e < i) (hj : j ≤ (n.log2 : Int) + f) (hij : i - j ≤ 127) : finite .f32 (fop .quo .f32 (some x) (some q)) = true := by
  have es : fop .quo .f32 (some x) (some q) = ((single.read x).quotient 25 (single.read q)).map single.write := rfl
  rw [es, hx, hq]
  simp only [Datum.quotient, if_neg hn, Option.map_some]
  have hd : m = 0 ∨ (m.log2 : Int) + e - ((n.log2 : Int) + f) < 127 := by
    rcases hi with h | h
    · exact .inl h
    · exact .inr (by omega)
  have hln : n.log2 < 24 := (Nat.log2_lt hn).2 hn2
  have hq2 := quo_lt hn hd (m <<< (25 + n.log2 - m.log2) % n != 0) (25 + n.log2 - m.log2) (by omega)
  rcases hq2 with hq2 | rfl
  · exact write_fin hq2
  · have hz : (2 * (0 <<< (25 + n.log2 - Nat.log2 0) / n) + (0 <<< (25 + n.log2 - Nat.log2 0) % n != 0).toNat) = 0 := by simp
    rw [hz]
    exact write_fin (.inl rfl)
end Go.Proofs.Ytmjlhmbnaifhaac
