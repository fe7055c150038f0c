/- Helper: what the flipped square of a factor makes a list of, of the program. Conditions: none. -/
import Derived.Test.YtmddhhmgfhljiaaFactorSolveImpl
import Derived.Test.YtmddhhmgfhljiaaFlipWalks
set_option linter.unusedVariables false
set_option linter.unusedSimpArgs false
namespace Go.Proofs.Ytmddhhmgfhljiaa
open Go.RowKit

theorem seen_of {Z : Nat → Int} {t : Nat} : ∀ {i : Nat}, t < i → seenB Z i (Z t) = true
  | 0, h => by omega
  | i + 1, h => by
    by_cases e : t = i
    · subst e; simp [seenB]
    · simp [seenB, seen_of (Z := Z) (show t < i by omega)]
theorem okTo_apart {Z : Nat → Int} {n i j : Nat} : ∀ {m : Nat}, okTo Z n m = true → i < j → j < m → Z i ≠ Z j
  | 0, _, _, h => by omega
  | m + 1, ho, hij, h => by
    simp only [okTo, Bool.and_eq_true] at ho
    by_cases e : j = m
    · subst e
      intro hh
      have h2 := ho.2
      unfold okAt at h2
      rw [← hh, seen_of hij] at h2
      simp at h2
    · exact okTo_apart ho.1 hij (by omega)
theorem ord_apart {O : Nat → Int} {r i j : Nat} (h : ordB O r = true) (hi : i < r) (hj : j < r) (e : O i = O j) : i = j := by
  unfold ordB at h
  simp only [Bool.and_eq_true] at h
  by_cases h1 : i < j
  · exact absurd e (okTo_apart h.2.2 h1 hj)
  · by_cases h2 : j < i
    · exact absurd e.symm (okTo_apart h.2.2 h2 hi)
    · omega
/-- A list whose numbers are stored where an order tells, from the first on. -/
def scA (O : Nat → Int) (W : Nat → Option Nat) : Nat → Nat → Option Nat
  | 0, _ => some 0
  | j + 1, s => if O j = s then W j else scA O W j s
/-- The same from the last one on. -/
def scD (O : Nat → Int) (W : Nat → Option Nat) (n : Nat) : Nat → Nat → Option Nat
  | 0, _ => some 0
  | j + 1, s => if O (n - 1 - j) = s then W (n - 1 - j) else scD O W n j s
theorem scA_hit {O : Nat → Int} {W : Nat → Option Nat} {r s t : Nat} (ho : ordB O r = true) (ht : t < r) (e : O t = s) : ∀ {j : Nat}, j ≤ r → t < j → scA O W j s = W t
  | 0, _, h => by omega
  | j + 1, hj, h => by
    show (if O j = s then W j else scA O W j s) = W t
    by_cases e2 : O j = s
    · rw [if_pos e2, ord_apart ho (show j < r by omega) ht (e2.trans e.symm)]
    · rw [if_neg e2]
      have : t ≠ j := fun hh => e2 (hh ▸ e)
      exact scA_hit ho ht e (by omega) (by omega)
theorem scA_miss {O : Nat → Int} {W : Nat → Option Nat} {r s : Nat} (hn : ∀ t, t < r → O t ≠ s) : ∀ {j : Nat}, j ≤ r → scA O W j s = some 0
  | 0, _ => rfl
  | j + 1, hj => by
    show (if O j = s then W j else scA O W j s) = some 0
    rw [if_neg (hn j (by omega))]
    exact scA_miss hn (by omega)
theorem scD_hit {O : Nat → Int} {W : Nat → Option Nat} {r s t : Nat} (ho : ordB O r = true) (ht : t < r) (e : O t = s) : ∀ {j : Nat}, j ≤ r → r - 1 - t < j → scD O W r j s = W t
  | 0, _, h => by omega
  | j + 1, hj, h => by
    show (if O (r - 1 - j) = s then W (r - 1 - j) else scD O W r j s) = W t
    by_cases e2 : O (r - 1 - j) = s
    · rw [if_pos e2, ord_apart ho (show r - 1 - j < r by omega) ht (e2.trans e.symm)]
    · rw [if_neg e2]
      have : r - 1 - t ≠ j := fun hh => e2 (by rw [← hh, show r - 1 - (r - 1 - t) = t by omega]; exact e)
      exact scD_hit ho ht e (by omega) (by omega)
theorem scD_miss {O : Nat → Int} {W : Nat → Option Nat} {r s : Nat} (hn : ∀ t, t < r → O t ≠ s) : ∀ {j : Nat}, j ≤ r → scD O W r j s = some 0
  | 0, _ => rfl
  | j + 1, hj => by
    show (if O (r - 1 - j) = s then W (r - 1 - j) else scD O W r j s) = some 0
    rw [if_neg (hn (r - 1 - j) (by omega))]
    exact scD_miss hn (by omega)
theorem scD_eq {O : Nat → Int} {W : Nat → Option Nat} {r s : Nat} (ho : ordB O r = true) : scD O W r r s = scA O W r s := by
  by_cases h : ∃ t, t < r ∧ O t = s
  · obtain ⟨t, ht, e⟩ := h
    rw [scA_hit ho ht e (Nat.le_refl _) ht, scD_hit ho ht e (Nat.le_refl _) (by omega)]
  · have hn : ∀ t, t < r → O t ≠ s := fun t ht e => h ⟨t, ht, e⟩
    rw [scA_miss hn (Nat.le_refl _), scD_miss hn (Nat.le_refl _)]
theorem scA_congr {O : Nat → Int} {W W2 : Nat → Option Nat} {s : Nat} : ∀ {n : Nat}, (∀ t, t < n → W t = W2 t) → scA O W n s = scA O W2 n s
  | 0, _ => rfl
  | n + 1, h => by
    show (if O n = s then W n else scA O W n s) = (if O n = s then W2 n else scA O W2 n s)
    rw [h n (by omega), scA_congr (n := n) fun t ht => h t (by omega)]
theorem sq_flipF {n i k : Nat} {Z : Nat → Nat} (hi : i < n) (hk : k < n) : sq n (flipZ n n Z) i k = sq n Z k i := by
  unfold sq vals flipZ
  obtain ⟨h1, h2⟩ := place_div (j := i) hk
  rw [h1, h2]
/-- What the flipped square makes a list of, in the order of the pivots. -/
def flW (r : Nat) (A : Nat → Nat → Option Nat) (V : Nat → Option Nat) : Nat → Option Nat := upY (fun i k => A k i) false r (lowY (fun i k => A k i) true V r) r
def flV (r : Nat) (A : Nat → Nat → Option Nat) (O : Nat → Int) (V : Nat → Option Nat) : Nat → Option Nat := scA O (flW r A V) r
set_option maxRecDepth 20000 in
set_option maxHeartbeats 2000000 in
theorem implFlipS_no (R C : Int) (a : Option Addr) (n c : Nat) (Z : Nat → Nat) (b : Option Addr) (m d : Nat) (O : Nat → Int) (b2 : Option Addr) (n2 d2 : Nat) (Y : Nat → Nat) (w : World) (hn : n ≤ 1048576) (hm : m ≤ 1048576) (hn2 : n2 ≤ 1048576) (h : FS .f32 w a n c Z) (h2 : IS .i64 w b m d O) (h3 : FS .f32 w b2 n2 d2 Y)
    (ho : (factorB R C n (vals Z) m O && fitsB R n2 (vals Y)) = false) :
    Calls Try.prog 13 #[.agg #[.int .i64 R, .int .i64 C, .slice a n c, .slice b m d], .slice b2 n2 d2] w (NumsOwn false 0 (fun _ => none) w) := by
  cases hf : factorB R C n (vals Z) m O with
  | false =>
    go_enter Try.func13, Try.ntmps13
    go_wp2_with fail
    go_at_call 40
    refine (implFactor_any R C a n c Z b m d O _ hn hm (h.below (by repeat first | (with_reducible exact Below.refl _ _) | (with_reducible refine Below.setCell ?_ (by first | exact Nat.le_refl _ | (simp; done) | (simp; omega) | omega) _) | (with_reducible refine Below.alloc ?_ (by first | exact Nat.le_refl _ | (simp; done) | (simp; omega) | omega) _) | (with_reducible refine below_drewN ?_ _) | (with_reducible refine Below.drew ?_)) (Nat.le_refl _)) (h2.below (by repeat first | (with_reducible exact Below.refl _ _) | (with_reducible refine Below.setCell ?_ (by first | exact Nat.le_refl _ | (simp; done) | (simp; omega) | omega) _) | (with_reducible refine Below.alloc ?_ (by first | exact Nat.le_refl _ | (simp; done) | (simp; omega) | omega) _) | (with_reducible refine below_drewN ?_ _) | (with_reducible refine Below.drew ?_)) (Nat.le_refl _))).mono ?_
    rintro e w1 ⟨rfl, b1⟩
    rw [hf]
    have B1 : Below w.heap.size w w1 := Below.trans (by repeat first | (with_reducible exact Below.refl _ _) | (with_reducible refine Below.setCell ?_ (by first | exact Nat.le_refl _ | (simp; done) | (simp; omega) | omega) _) | (with_reducible refine Below.alloc ?_ (by first | exact Nat.le_refl _ | (simp; done) | (simp; omega) | omega) _) | (with_reducible refine below_drewN ?_ _) | (with_reducible refine Below.drew ?_)) (b1.mono (by simp))
    clear b1
    go_wp2_with fail
    go_ret2
    exact NumsOwn.noF B1
  | true =>
    have hft : fitsB R n2 (vals Y) = false := by rw [hf] at ho; simpa using ho
    go_enter Try.func13, Try.ntmps13
    go_wp2_with fail
    go_at_call 40
    refine (implFactor_any R C a n c Z b m d O _ hn hm (h.below (by repeat first | (with_reducible exact Below.refl _ _) | (with_reducible refine Below.setCell ?_ (by first | exact Nat.le_refl _ | (simp; done) | (simp; omega) | omega) _) | (with_reducible refine Below.alloc ?_ (by first | exact Nat.le_refl _ | (simp; done) | (simp; omega) | omega) _) | (with_reducible refine below_drewN ?_ _) | (with_reducible refine Below.drew ?_)) (Nat.le_refl _)) (h2.below (by repeat first | (with_reducible exact Below.refl _ _) | (with_reducible refine Below.setCell ?_ (by first | exact Nat.le_refl _ | (simp; done) | (simp; omega) | omega) _) | (with_reducible refine Below.alloc ?_ (by first | exact Nat.le_refl _ | (simp; done) | (simp; omega) | omega) _) | (with_reducible refine below_drewN ?_ _) | (with_reducible refine Below.drew ?_)) (Nat.le_refl _))).mono ?_
    rintro e w1 ⟨rfl, b1⟩
    rw [hf]
    have B1 : Below w.heap.size w w1 := Below.trans (by repeat first | (with_reducible exact Below.refl _ _) | (with_reducible refine Below.setCell ?_ (by first | exact Nat.le_refl _ | (simp; done) | (simp; omega) | omega) _) | (with_reducible refine Below.alloc ?_ (by first | exact Nat.le_refl _ | (simp; done) | (simp; omega) | omega) _) | (with_reducible refine below_drewN ?_ _) | (with_reducible refine Below.drew ?_)) (b1.mono (by simp))
    have s1 : w.heap.size < w1.heap.size := by have := b1.size; simp at this; omega
    have X1 : BoxL w1 w.heap.size [.int .i64 R, .int .i64 C, .slice a n c, .slice b m d] := BoxL.below (BoxL.four (by simp [go_sem]) (by simp [go_sem]) (by simp [go_sem]) (by simp [go_sem])) b1 (by simp)
    have x0 := X1 0 _ rfl
    have x1 := X1 1 _ rfl
    have x2 := X1 2 _ rfl
    clear b1 X1 hf ho
    go_wp2_with fail
    go_at_call 41
    refine (fitsRows_any R C a b2 n c n2 d2 Y _ hn2 (h3.below B1 (Nat.le_refl _))).mono ?_
    rintro e w2 ⟨rfl, b2'⟩
    rw [hft]
    have B2 := B1.trans (b2'.mono B1.size)
    clear b2' x0 x1 x2 B1
    go_wp2_with fail
    go_ret2
    exact NumsOwn.noF B2
set_option maxRecDepth 20000 in
set_option maxHeartbeats 4000000 in
theorem implFlipS_yes (r n ba oa c bb ob d bc oc d2 : Nat) (Z : Nat → Nat) (O : Nat → Int) (Y : Nat → Nat) (w : World) (hf : factorB r r n (vals Z) r O = true) (hft : fitsB r r (vals Y) = true) (h : FS .f32 w (some ⟨ba, oa, none⟩) n c Z) (h2 : IS .i64 w (some ⟨bb, ob, none⟩) r d O) (h3 : FS .f32 w (some ⟨bc, oc, none⟩) r d2 Y) :
    Calls Try.prog 13 #[.agg #[.int .i64 (r : Int), .int .i64 (r : Int), .slice (some ⟨ba, oa, none⟩) n c, .slice (some ⟨bb, ob, none⟩) r d], .slice (some ⟨bc, oc, none⟩) r d2] w (NOwnIf (allFin (flV r (sq r Z) O (vals Y)) r) r (flV r (sq r Z) O (vals Y)) w) := by
  obtain ⟨r', e1, _, _, h1, h12, hN, _, _, hord, _⟩ := factor_nat hf
  have e2 : r = r' := by omega
  subst e2
  have HN := Lib.hid hN
  have hn144 : n ≤ 144 := by have := sides_le h12 h12; omega
  have hpos : 0 < n := by rw [hN]; exact Nat.mul_pos h1 h1
  clear hN e1
  obtain ⟨i0, hi, hz0, hz1, hz2⟩ := info_parts info32
  obtain ⟨VX, hVX⟩ : ∃ F, F = flV r (sq r Z) O (vals Y) := ⟨_, rfl⟩
  rw [← hVX]
  obtain ⟨OK, hOK⟩ : ∃ F, F = allFin VX r := ⟨_, rfl⟩
  rw [← hOK]
  have HVX := Lib.hid hVX
  have HOK := Lib.hid hOK
  clear hVX hOK
  go_enter Try.func13, Try.ntmps13
  go_wp2_with fail
  go_at_call 40
  refine (implFactor_any (r : Int) (r : Int) (some ⟨ba, oa, none⟩) n c Z (some ⟨bb, ob, none⟩) r d O _ (by omega) (by omega) (h.below (by repeat first | (with_reducible exact Below.refl _ _) | (with_reducible refine Below.setCell ?_ (by first | exact Nat.le_refl _ | (simp; done) | (simp; omega) | omega) _) | (with_reducible refine Below.alloc ?_ (by first | exact Nat.le_refl _ | (simp; done) | (simp; omega) | omega) _) | (with_reducible refine below_drewN ?_ _) | (with_reducible refine Below.drew ?_)) (Nat.le_refl _)) (h2.below (by repeat first | (with_reducible exact Below.refl _ _) | (with_reducible refine Below.setCell ?_ (by first | exact Nat.le_refl _ | (simp; done) | (simp; omega) | omega) _) | (with_reducible refine Below.alloc ?_ (by first | exact Nat.le_refl _ | (simp; done) | (simp; omega) | omega) _) | (with_reducible refine below_drewN ?_ _) | (with_reducible refine Below.drew ?_)) (Nat.le_refl _))).mono ?_
  rintro e w1 ⟨rfl, b1⟩
  rw [hf]
  have B1 : Below w.heap.size w w1 := Below.trans (by repeat first | (with_reducible exact Below.refl _ _) | (with_reducible refine Below.setCell ?_ (by first | exact Nat.le_refl _ | (simp; done) | (simp; omega) | omega) _) | (with_reducible refine Below.alloc ?_ (by first | exact Nat.le_refl _ | (simp; done) | (simp; omega) | omega) _) | (with_reducible refine below_drewN ?_ _) | (with_reducible refine Below.drew ?_)) (b1.mono (by simp))
  have s1 : w.heap.size < w1.heap.size := by have := b1.size; simp at this; omega
  have X1 : BoxL w1 w.heap.size [.int .i64 (r : Int), .int .i64 (r : Int), .slice (some ⟨ba, oa, none⟩) n c, .slice (some ⟨bb, ob, none⟩) r d] := BoxL.below (BoxL.four (by simp [go_sem]) (by simp [go_sem]) (by simp [go_sem]) (by simp [go_sem])) b1 (by simp)
  have x0 := X1 0 _ rfl
  have x1 := X1 1 _ rfl
  have x2 := X1 2 _ rfl
  clear b1 hf
  go_wp2_with fail
  go_at_call 41
  refine (fitsRows_any (r : Int) (r : Int) (some ⟨ba, oa, none⟩) (some ⟨bc, oc, none⟩) n c r d2 Y _ (by omega) (h3.below B1 (Nat.le_refl _))).mono ?_
  rintro e w2 ⟨rfl, b2'⟩
  rw [hft]
  have B2 := B1.trans (b2'.mono B1.size)
  have X2 := X1.below b2' s1
  have s2 : w.heap.size < w2.heap.size := Nat.lt_of_lt_of_le s1 b2'.size
  clear b2' x0 x1 x2 X1 B1 s1 hft
  have x0 := X2 0 _ rfl
  have x1 := X2 1 _ rfl
  have x2 := X2 2 _ rfl
  go_wp2_with fail
  go_at_call 42
  refine (flipped_any r r n ba oa c Z _ h1 h12 h1 h12 HN.out (h.below B2 (Nat.le_refl _))).mono ?_
  rintro e w3 ⟨gf, rfl, of, b3⟩
  have B3 := B2.trans (b3.mono B2.size)
  have X3 := X2.below b3 s2
  have s3 : w.heap.size < w3.heap.size := Nat.lt_of_lt_of_le s2 b3.size
  have F3 := of.fs
  have hgf : gf < w3.heap.size := by
    obtain ⟨_, _, _, q, hU, _⟩ := of.cell (t := 0) hpos
    omega
  clear b3 x0 x1 x2 X2 B2 s2 of
  go_wp2_with fail
  go_at_call 43
  have bA : Below w3.heap.size w3 (w3.alloc (.cells #[.int .i64 (r : Int), .int .i64 (r : Int), .slice (some ⟨gf, 0, none⟩) n n] 31)) := Below.alloc (Below.refl _ _) (Nat.le_refl _) _
  have XF : Box (w3.alloc (.cells #[.int .i64 (r : Int), .int .i64 (r : Int), .slice (some ⟨gf, 0, none⟩) n n] 31)) w3.heap.size r r (some ⟨gf, 0, none⟩) n n := Box.new _ _ _ _ _ _ _
  have sA : w3.heap.size < (w3.alloc (.cells #[.int .i64 (r : Int), .int .i64 (r : Int), .slice (some ⟨gf, 0, none⟩) n n] 31)).heap.size := by simp
  generalize w3.alloc (.cells #[.int .i64 (r : Int), .int .i64 (r : Int), .slice (some ⟨gf, 0, none⟩) n n] 31) = wa at bA XF sA ⊢
  have Ba := B3.trans (bA.mono B3.size)
  have Xa := X3.below bA s3
  have Fa := F3.below bA (Nat.le_refl _)
  have sa : w.heap.size < wa.heap.size := Nat.lt_trans s3 sA
  have hgfa : gf < wa.heap.size := Nat.lt_trans hgf sA
  clear B3 X3 F3 bA
  refine (clone_any bc oc r d2 Y _ (by omega) (by omega) (h3.below Ba (Nat.le_refl _))).mono ?_
  rintro e w4 ⟨gy, dy, rfl, oy, b4⟩
  have B4 := Ba.trans (b4.mono Ba.size)
  have X4 := Xa.below b4 sa
  have s4 : w.heap.size < w4.heap.size := Nat.lt_of_lt_of_le sa b4.size
  have F4 := Fa.below b4 (Nat.le_refl _)
  have XF4 := XF.below b4 sA
  have t4 : w3.heap.size < w4.heap.size := Nat.lt_of_lt_of_le sA b4.size
  have hgy : wa.heap.size ≤ gy := by
    obtain ⟨_, _, q, _⟩ := oy.cell (t := 0) (by omega)
    exact q
  have hne : gf ≠ gy := by omega
  obtain ⟨y0, y1, y2⟩ := XF4
  clear Xa Fa XF
  go_wp2_with fail
  go_at_call 44
  refine (lowerSteps_any r n gf 0 n gy dy wa.heap.size w4.heap.size true (flipZ r r Z) Y _ h1 h12 HN.out F4 oy hne).mono ?_
  rintro e w5 ⟨rfl, X5, o5, hX5, g5⟩
  have b5 : Below wa.heap.size wa w5 := b4.grown g5 b4.size (fun q hq => by cases hq; omega)
  have F5 := F4.grown g5 (fun q hq => by cases hq; exact hne)
  have XF5 : Box w5 w3.heap.size r r (some ⟨gf, 0, none⟩) n n := Box.grown ⟨y0, y1, y2⟩ g5 t4 (fun q hq => by cases hq; omega)
  have XX5 : BoxL w5 w.heap.size [.int .i64 (r : Int), .int .i64 (r : Int), .slice (some ⟨ba, oa, none⟩) n c, .slice (some ⟨bb, ob, none⟩) r d] := fun i v hv => (World.cell?_of_block (a := ⟨w.heap.size, i, none⟩) (g5.block w.heap.size s4 (fun e => by cases e; omega))).trans (X4 i v hv)
  have s5 : w.heap.size < w5.heap.size := Nat.lt_of_lt_of_le sa b5.size
  have HX5 := Lib.hid hX5
  clear oy b4 B4 X4 F4 g5 hX5 y0 y1 y2
  obtain ⟨y0, y1, y2⟩ := XF5
  go_wp2_with fail
  go_at_call 45
  refine (upperSteps_any r n gf 0 n gy dy wa.heap.size w4.heap.size false (flipZ r r Z) X5 _ h1 h12 HN.out F5 o5 hne).mono ?_
  rintro e w6 ⟨rfl, X6, o6, hX6, g6⟩
  have b6 : Below wa.heap.size wa w6 := b5.grown g6 b5.size (fun q hq => by cases hq; omega)
  have B6 := Ba.trans (b6.mono Ba.size)
  have XX6 : BoxL w6 w.heap.size [.int .i64 (r : Int), .int .i64 (r : Int), .slice (some ⟨ba, oa, none⟩) n c, .slice (some ⟨bb, ob, none⟩) r d] := fun i v hv => (World.cell?_of_block (a := ⟨w.heap.size, i, none⟩) (g6.block w.heap.size s5 (fun e => by cases e; omega))).trans (XX5 i v hv)
  have s6 : w.heap.size < w6.heap.size := Nat.lt_of_lt_of_le s5 g6.size
  have hW6 : ∀ t, t < r → vals X6 t = flW r (sq r Z) (vals Y) t := by
    intro t ht
    rw [hX6 t ht]
    unfold flW
    refine upY_congr (n := r) (fun i k hi hk => sq_flipF hi hk) (fun i hi => ?_) (Nat.le_refl _) ht
    rw [HX5.out i hi]
    exact lowY_congr (n := r) (fun i k hi hk => sq_flipF hi hk) (fun i hi => rfl) (Nat.le_refl _) hi
  have HW6 := Lib.hid hW6
  have Y6 := o6.fs
  have sY : gy < w6.heap.size := by
    obtain ⟨_, _, _, q, hq, _⟩ := o6.cell (t := 0) (by omega)
    omega
  clear b5 Ba F5 XX5 o5 g6 hX6 hW6 HX5 o6 b6 s3 s4 s5 hgy hgf hne hgfa sA sa t4 y0 y1 y2
  go_wp2_with (at_make; refine wpList_make_full _ rfl _ _ 22 rfl w6.heap.size 44 i0 (.float .f32 0) 1 Try.underlying22 hi hz0 hz1 _ _ _ _ r rfl rfl rfl rfl ?b2 ?b3 (Nat.le_refl _) ?_)
  case b2 => rw [hz2]; omega
  case b3 => unfold maxLen; omega
  intro w0 hown0 hgrow0
  have hU := (hown0.lt w6.heap.size rfl).2
  have o0 := own_zero (w := w6) (U := w0.heap.size) hown0 (Nat.le_refl _) hU (Nat.le_refl _) (by unfold maxLen; omega)
  have b0 : Below w6.heap.size w6 w0 := (Below.refl _ _).grown hgrow0 (Nat.le_refl _) (fun k h => by cases h)
  clear hown0 hgrow0 hi hz0 hz1 hz2
  obtain ⟨g, hg⟩ : ∃ g, g = w6.heap.size := ⟨_, rfl⟩
  rw [← hg] at o0 hU ⊢
  have hgw : w.heap.size < g := by omega
  have hgE : w6.heap.size ≤ g := by omega
  have hgY : gy < g := by omega
  clear hg
  have X0 := XX6.below b0 s6
  have x3 := X0 3 _ rfl
  go_wp2
  clear x3 X0
  go_loopw [38] (fun i wr => ∃ (j : Nat) (X : Nat → Nat), j ≤ r ∧ i = .int .i64 j ∧ (∀ s, s < r → vals X s = scA O (flW r (sq r Z) (vals Y)) j s) ∧ Own 44 .f32 g w0.heap.size wr (some ⟨g, 0, none⟩) r r X ∧ Below w6.heap.size w6 wr) (fun i _ => r - (intOf i).toNat)
  case atStart => exact ⟨0, _, Nat.zero_le _, rfl, fun t ht => by show cn .f32 0 = some 0; kernel_rfl, o0, b0⟩
  case round =>
    obtain ⟨j, X, hj, rfl, hX, hk, hbw⟩ := hrel
    have HX := Lib.hid hX
    clear o0 b0 hX
    by_cases hlt : j < r
    · have hBw : Below w.heap.size w wr := B6.trans (hbw.mono B6.size)
      obtain ⟨k, hOk, hkr⟩ := ord_range hord hlt
      obtain ⟨b', off', e, hbl, hco, hwo⟩ := (h2.below hBw (Nat.le_refl _)).at hlt
      simp only [Option.some.injEq, Addr.mk.injEq, and_true] at e
      obtain ⟨rfl, rfl⟩ := e
      rw [hOk] at hco
      clear hbl hwo
      obtain ⟨b', off', e, hbl, hcy, hfy⟩ := (Y6.below hbw (Nat.le_refl _)).at hlt
      simp only [Option.some.injEq, Addr.mk.injEq, and_true] at e
      obtain ⟨rfl, rfl⟩ := e
      rw [Nat.zero_add] at hcy
      clear hbl
      obtain ⟨cX, rX, _, _, hgU, wX⟩ := hk.cell hkr
      obtain ⟨hk2, gg⟩ := hk.stored (t := k) (v := X6 j) hkr hfy.2
      have hbw2 : Below w6.heap.size w6 (wr.setCell ⟨g, k, none⟩ (.float .f32 (X6 j))) := hbw.setCell hgE _
      have hX2 : ∀ t, t < r → vals (fun t => if t = k then X6 j else X t) t = scA O (flW r (sq r Z) (vals Y)) (j + 1) t := by
        intro t ht
        show cn .f32 (if t = k then X6 j else X t) = (if O j = t then _ else _)
        by_cases e : t = k
        · rw [if_pos e, if_pos (by rw [hOk]; omega)]; exact HW6.out j hlt
        · rw [if_neg e, if_neg (by rw [hOk]; omega)]; exact HX.out t ht
      have hk' := Lib.hid hk2
      have hb' := Lib.hid hbw2
      have hX' := Lib.hid hX2
      clear hk2 hbw2 hX2 gg hk hbw hOk wX
      go_wp2_with fail
      go_roundw
      case rel => exact ⟨j + 1, _, by omega, by go_num, hX'.out, hk'.out, hb'.out⟩
      case measure => simp [intOf]; omega
    · obtain rfl : j = r := by omega
      have hBw : Below w.heap.size w wr := B6.trans (hbw.mono B6.size)
      have hXV : ∀ t, t < j → vals X t = VX t := fun t ht => (HX.out t ht).trans (by rw [HVX.out]; rfl)
      have hvec : vecB j (vals X) = OK := by rw [HOK.out]; exact (vec_ofF h1 h12).trans (allFin_congr hXV)
      have f4 := hk.fs
      have O4 := Lib.hid hk
      have HB4 := Lib.hid hBw
      have HXV := Lib.hid hXV
      have s4 : w0.heap.size ≤ wr.heap.size := by
        obtain ⟨_, _, _, _, q, _⟩ := hk.cell (t := 0) (by omega)
        exact q
      clear hk hBw hXV hbw HX
      cases ha : OK with
      | true =>
        rw [ha] at hvec
        go_wp2_with fail
        go_at_call 46
        refine (vectorResult_yes _ j j X _ (by omega) f4 hvec).mono ?_
        rintro e w5 ⟨rfl, m5, rfl⟩
        go_wp2_with fail
        go_ret2
        exact NOwnIf.yes ha ⟨_, _, X, rfl, Own.mono (U := w0.heap.size) (B := g) O4.out (by omega) s4 (Nat.le_refl _), HXV.out, below_drewN HB4.out _⟩
      | false =>
        rw [ha] at hvec
        go_wp2_with fail
        go_at_call 46
        refine (vectorResult_no _ j j X _ (by omega) f4 hvec).mono ?_
        rintro e w5 ⟨rfl, m5, rfl⟩
        go_wp2_with fail
        go_ret2
        exact NOwnIf.no ha (NumsOwn.noF (below_drewN HB4.out _))
end Go.Proofs.Ytmddhhmgfhljiaa
