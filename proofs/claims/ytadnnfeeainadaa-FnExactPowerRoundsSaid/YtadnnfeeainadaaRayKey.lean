/- Helper: the value that a vector tells of a square, of the program and of its reference. Conditions: none. -/
import Derived.Test.YtadnnfeeainadaaTimesKey
import Derived.Test.YtadnnfeeainadaaTri
set_option linter.unusedVariables false
set_option linter.unusedSimpArgs false
namespace Go.Proofs.Ytadnnfeeainadaa
open Go.RowKit

/-- Whether a square leads a list to a vector. -/
def tkB (r n2 : Nat) (Z Y : Nat → Nat) : Bool := (vecB n2 (vals Y) && decide ((n2 : Int) = r)) && allFin (tv r Z Y) r
theorem tk_nat {r n2 : Nat} {Z Y : Nat → Nat} (h : tkB r n2 Z Y = true) : n2 = r ∧ vecB n2 (vals Y) = true ∧ allFin (tv r Z Y) r = true := by
  unfold tkB at h
  simp only [Bool.and_eq_true, decide_eq_true_eq] at h
  exact ⟨by omega, h.1.1, h.2⟩
theorem implTimes_sq (r N p o c n2 d : Nat) (b : Option Addr) (Z Y : Nat → Nat) (w : World) (hr1 : 1 ≤ r) (hr : r ≤ 12) (hN : N = r * r) (hv : validB r r N (vals Z) = true) (hm : n2 ≤ 1048576)
    (h : FS .f32 w (some ⟨p, o, none⟩) N c Z) (h2 : FS .f32 w b n2 d Y) :
    Calls Try.prog 34 #[.agg #[.int .i64 r, .int .i64 r, .slice (some ⟨p, o, none⟩) N c], .slice b n2 d] w (NOwnIf (tkB r n2 Z Y) r (tv r Z Y) w) := by
  have hn : N ≤ 1048576 := by have := sides_le hr hr; omega
  cases ho : (vecB n2 (vals Y) && decide ((n2 : Int) = r)) with
  | false =>
    have e : tkB r n2 Z Y = false := by unfold tkB; rw [ho]; rfl
    rw [e]
    exact implTimes_no r r _ b N c n2 d Z Y w hn hm h h2 (by unfold tmOk; rw [ho, hv]; rfl)
  | true =>
    have e : tkB r n2 Z Y = allFin (tv r Z Y) r := by unfold tkB; rw [ho]; rfl
    rw [e]
    simp only [Bool.and_eq_true, decide_eq_true_eq] at ho
    obtain ⟨hv2, e2⟩ := ho
    obtain rfl : n2 = r := by omega
    obtain ⟨p2, o2, rfl, _⟩ := h2.at (show 0 < n2 by omega)
    exact implTimes_yes n2 n2 N p o c p2 o2 d Z Y w hr1 hr hr1 hr hN hv hv2 h h2
theorem specTimes_sq (r N p o c n2 d : Nat) (b : Option Addr) (Z Y : Nat → Nat) (w : World) (hr1 : 1 ≤ r) (hr : r ≤ 12) (hN : N = r * r) (hv : validB r r N (vals Z) = true) (hm : n2 ≤ 1048576)
    (h : FS .f32 w (some ⟨p, o, none⟩) N c Z) (h2 : FS .f32 w b n2 d Y) :
    Calls Try.prog 30 #[.agg #[.int .i64 r, .int .i64 r, .slice (some ⟨p, o, none⟩) N c], .slice b n2 d] w (NBelIf (tkB r n2 Z Y) r (tv r Z Y) w) := by
  have hn : N ≤ 1048576 := by have := sides_le hr hr; omega
  cases ho : (vecB n2 (vals Y) && decide ((n2 : Int) = r)) with
  | false =>
    have e : tkB r n2 Z Y = false := by unfold tkB; rw [ho]; rfl
    rw [e]
    exact specTimes_no r r _ b N c n2 d Z Y w hn hm h h2 (by unfold tmOk; rw [ho, hv]; rfl)
  | true =>
    have e : tkB r n2 Z Y = allFin (tv r Z Y) r := by unfold tkB; rw [ho]; rfl
    rw [e]
    simp only [Bool.and_eq_true, decide_eq_true_eq] at ho
    obtain ⟨hv2, e2⟩ := ho
    obtain rfl : n2 = r := by omega
    obtain ⟨p2, o2, rfl, _⟩ := h2.at (show 0 < n2 by omega)
    exact specTimes_yes n2 n2 N p o c p2 o2 d Z Y w hr1 hr hr1 hr hN hv hv2 h h2
/-- What is told. -/
def rayV (n : Nat) (Z Y : Nat → Nat) : Option Nat := fop .quo .f32 (dotG (vals Y) (tv n Z Y) n) (dotG (vals Y) (vals Y) n)
def rayB (n n2 : Nat) (Z Y : Nat → Nat) : Bool := tkB n n2 Z Y && (!isZero (dotG (vals Y) (vals Y) n) && finite .f32 (rayV n Z Y))
def rayOk (R C : Int) (N n2 : Nat) (Z Y : Nat → Nat) : Bool := squareB R C N (vals Z) && rayB R.toNat n2 Z Y
theorem num_no {w w' : World} (h : Below w.heap.size w w') {X : Option Nat} : NumBel false (pick false X) w (.returned (.tuple #[.float .f32 0, .bool false])) w' := ⟨0, rfl, pick_no _ rfl, h⟩
theorem square_valid {R C : Int} {n : Nat} {V : Nat → Option Nat} (h : squareB R C n V = true) : validB R C n V = true := by
  unfold squareB at h
  simp only [Bool.and_eq_true] at h
  exact h.1
set_option maxRecDepth 20000 in
set_option maxHeartbeats 1000000 in
theorem implRay_any (R C : Int) (a b : Option Addr) (N c n2 d : Nat) (Z Y : Nat → Nat) (w : World) (hn : N ≤ 1048576) (hm : n2 ≤ 1048576) (h : FS .f32 w a N c Z) (h2 : FS .f32 w b n2 d Y) :
    Calls Try.prog 35 #[.agg #[.int .i64 R, .int .i64 C, .slice a N c], .slice b n2 d] w (NumBel (rayOk R C N n2 Z Y) (pick (rayOk R C N n2 Z Y) (rayV R.toNat Z Y)) w) := by
  obtain ⟨ok, hok⟩ : ∃ ok, ok = rayOk R C N n2 Z Y := ⟨_, rfl⟩
  rw [← hok]
  unfold rayOk at hok
  cases hs : squareB R C N (vals Z) with
  | false =>
    obtain rfl : ok = false := by rw [hok, hs]; rfl
    clear hok
    go_enter Try.func35, Try.ntmps35
    go_wp2_with fail
    go_at_call 46
    refine (implSquare_any R C a N c Z _ hn (h.below (by repeat first | (with_reducible exact Below.refl _ _) | (with_reducible refine Below.setCell ?_ (by first | exact Nat.le_refl _ | (simp; done) | (simp; omega) | omega) _) | (with_reducible refine Below.alloc ?_ (by first | exact Nat.le_refl _ | (simp; done) | (simp; omega) | omega) _) | (with_reducible refine below_drewN ?_ _) | (with_reducible refine Below.drew ?_)) (Nat.le_refl _))).mono ?_
    rintro e w1 ⟨rfl, b1⟩
    have B1 := Lib.hid (show Below w.heap.size w w1 from Below.trans (by repeat first | (with_reducible exact Below.refl _ _) | (with_reducible refine Below.setCell ?_ (by first | exact Nat.le_refl _ | (simp; done) | (simp; omega) | omega) _) | (with_reducible refine Below.alloc ?_ (by first | exact Nat.le_refl _ | (simp; done) | (simp; omega) | omega) _) | (with_reducible refine below_drewN ?_ _) | (with_reducible refine Below.drew ?_)) (b1.mono (by simp)))
    clear b1
    go_wp2_with fail
    go_ret2
    exact num_no B1.out
  | true =>
    have hv := square_valid hs
    rw [hs, Bool.true_and] at hok
    have hs' := hs
    obtain ⟨r, rfl, rfl, hr1, hr, hnr, _⟩ := square_nat hs'
    rw [Int.toNat_natCast] at hok ⊢
    obtain ⟨p, o, rfl, _, _, _⟩ := h.at (show 0 < N by rw [hnr]; exact Nat.mul_pos hr1 hr1)
    obtain ⟨RV, hRV⟩ : ∃ RV, RV = rayV r Z Y := ⟨_, rfl⟩
    have HN := Lib.hid hnr
    have HOK := Lib.hid hok
    have HV := Lib.hid hv
    rw [← hRV]
    have HRV := Lib.hid hRV
    clear hnr hok hs' hv hRV
    go_enter Try.func35, Try.ntmps35
    go_wp2_with fail
    go_at_call 46
    refine (implSquare_any r r _ N c Z _ hn (h.below (by repeat first | (with_reducible exact Below.refl _ _) | (with_reducible refine Below.setCell ?_ (by first | exact Nat.le_refl _ | (simp; done) | (simp; omega) | omega) _) | (with_reducible refine Below.alloc ?_ (by first | exact Nat.le_refl _ | (simp; done) | (simp; omega) | omega) _) | (with_reducible refine below_drewN ?_ _) | (with_reducible refine Below.drew ?_)) (Nat.le_refl _))).mono ?_
    rintro e w1 ⟨rfl, b1⟩
    have B1 : Below w.heap.size w w1 := Below.trans (by repeat first | (with_reducible exact Below.refl _ _) | (with_reducible refine Below.setCell ?_ (by first | exact Nat.le_refl _ | (simp; done) | (simp; omega) | omega) _) | (with_reducible refine Below.alloc ?_ (by first | exact Nat.le_refl _ | (simp; done) | (simp; omega) | omega) _) | (with_reducible refine below_drewN ?_ _) | (with_reducible refine Below.drew ?_)) (b1.mono (by simp))
    have X1 := (Box.new _ _ _ _ _ _ _).below b1 (by simp)
    have s1 : w.heap.size < w1.heap.size := by have := b1.size; simp at this; omega
    obtain ⟨x0, x1, x2⟩ := X1
    clear b1
    have ht := fun W hW hW2 => implTimes_sq r N p o c n2 d b Z Y W hr1 hr HN.out HV.out hm hW hW2
    cases hk : tkB r n2 Z Y with
    | false =>
      rw [hk] at ht
      obtain rfl : ok = false := by rw [HOK.out]; unfold rayB; rw [hk]; rfl
      clear hk
      go_wp2_with fail
      go_at_call 34
      refine (ht _ (h.below B1 (Nat.le_refl _)) (h2.below B1 (Nat.le_refl _))).mono ?_
      rintro e w2 ⟨g, dg, X, rfl, oX, hX, b2⟩
      have B2 := Lib.hid (B1.trans (b2.mono B1.size))
      clear b2 B1 x0 x1 x2 oX hX
      go_wp2_with fail
      go_ret2
      exact num_no B2.out
    | true =>
      rw [hk] at ht
      obtain ⟨rfl, hvv, hfin⟩ := tk_nat hk
      have HK := Lib.hid hk
      clear hk hvv hfin
      go_wp2_with fail
      go_at_call 34
      refine (ht _ (h.below B1 (Nat.le_refl _)) (h2.below B1 (Nat.le_refl _))).mono ?_
      rintro e w2 ⟨g, dg, X, rfl, oX, hX, b2⟩
      have B2 := B1.trans (b2.mono B1.size)
      have hX' := Lib.hid hX
      have fX := oX.fs
      have fY := h2.below B2 (Nat.le_refl _)
      clear b2 B1 x0 x1 x2 oX hX ht
      go_wp2_with fail
      go_at_call 68
      refine (implDot_any b b n2 d n2 d Y Y _ (by omega) (Nat.le_refl _) (by omega) fY fY).mono ?_
      rintro e w3 ⟨rs, rfl, hrs, m3, rfl⟩
      have hrsc := hrs.1
      have c0 : cn .f32 0 = some 0 := by kernel_rfl
      obtain ⟨SS, hSS⟩ : ∃ SS, SS = dotG (vals Y) (vals Y) n2 := ⟨_, rfl⟩
      rw [← hSS] at hrs hrsc
      have HSS := Lib.hid hSS
      clear hSS
      cases hz : isZero SS with
      | true =>
        have hz' : (ford .f32 SS (some 0) == some .eq) = true := hz
        obtain rfl : ok = false := by rw [HOK.out]; unfold rayB; rw [HK.out, ← HSS.out, hz]; rfl
        have B2' := Lib.hid B2
        clear B2 hz
        go_wp2_with fail
        go_ret2
        exact num_no (below_drewN B2'.out _)
      | false =>
        have hz' : (ford .f32 SS (some 0) == some .eq) = false := hz
        have hok2 : ok = finite .f32 RV := by rw [HOK.out]; unfold rayB; rw [HK.out, ← HSS.out, hz, HRV.out]; rfl
        have HOK2 := Lib.hid hok2
        have B2' := Lib.hid B2
        clear hz hok2
        go_wp2_with fail
        go_at_call 68
        refine (implDot_any b g n2 d n2 dg Y X _ (by omega) (Nat.le_refl _) (by omega) fY.drewN fX.drewN).mono ?_
        rintro e w4 ⟨rt, rfl, hrt, m4, rfl⟩
        clear hz' B2 hrsc
        go_wp2_with (first | (refine wpList_farith rfl _ _ _ _ _ rfl rfl _ _ _ rfl rfl (by first | assumption | (with_reducible exact FV.ofInt _ _) | (with_reducible exact FV.neg (by assumption)) | exact FV.lit (by kernel_rfl) (by kernel_rfl)) (by first | assumption | (with_reducible exact FV.ofInt _ _) | (with_reducible exact FV.neg (by assumption)) | exact FV.lit (by kernel_rfl) (by kernel_rfl)) ?_; intro r m hr))
        have hrv : FV .f32 _ RV := FV.of_eq (by assumption) (by rw [HRV.out]; unfold rayV; rw [← HSS.out, dotG_congr fun j hj => ⟨rfl, hX'.out j hj⟩])
        go_at_call 72
        refine (implNumber_any _ hrv _).mono ?_
        rintro e w5 ⟨r5, rfl, hr5, m5, rfl⟩
        clear hrv hrs hrt
        go_wp2_with fail
        go_ret2
        rw [HOK2.out]
        exact ⟨_, rfl, hr5, (by repeat first | (with_reducible exact B2'.out) | (with_reducible refine Below.setCell ?_ (by first | exact Nat.le_refl _ | (simp; done) | (simp; omega) | omega) _) | (with_reducible refine Below.alloc ?_ (by first | exact Nat.le_refl _ | (simp; done) | (simp; omega) | omega) _) | (with_reducible refine below_drewN ?_ _) | (with_reducible refine Below.drew ?_))⟩
set_option maxRecDepth 20000 in
set_option maxHeartbeats 1000000 in
theorem specRay_any (R C : Int) (a b : Option Addr) (N c n2 d : Nat) (Z Y : Nat → Nat) (w : World) (hn : N ≤ 1048576) (hm : n2 ≤ 1048576) (h : FS .f32 w a N c Z) (h2 : FS .f32 w b n2 d Y) :
    Calls Try.prog 31 #[.agg #[.int .i64 R, .int .i64 C, .slice a N c], .slice b n2 d] w (NumBel (rayOk R C N n2 Z Y) (pick (rayOk R C N n2 Z Y) (rayV R.toNat Z Y)) w) := by
  obtain ⟨ok, hok⟩ : ∃ ok, ok = rayOk R C N n2 Z Y := ⟨_, rfl⟩
  rw [← hok]
  unfold rayOk at hok
  cases hs : squareB R C N (vals Z) with
  | false =>
    obtain rfl : ok = false := by rw [hok, hs]; rfl
    clear hok
    go_enter Try.func31, Try.ntmps31
    go_wp2_with fail
    go_at_call 26
    refine (specSquare_any _ R C a N c Z _ hn (Box.new _ _ _ _ _ _ _) (h.below (by repeat first | (with_reducible exact Below.refl _ _) | (with_reducible refine Below.setCell ?_ (by first | exact Nat.le_refl _ | (simp; done) | (simp; omega) | omega) _) | (with_reducible refine Below.alloc ?_ (by first | exact Nat.le_refl _ | (simp; done) | (simp; omega) | omega) _) | (with_reducible refine below_drewN ?_ _) | (with_reducible refine Below.drew ?_)) (Nat.le_refl _))).mono ?_
    rintro e w1 ⟨rfl, m1, rfl⟩
    go_wp2_with fail
    go_ret2
    exact num_no (by repeat first | (with_reducible exact Below.refl _ _) | (with_reducible refine Below.setCell ?_ (by first | exact Nat.le_refl _ | (simp; done) | (simp; omega) | omega) _) | (with_reducible refine Below.alloc ?_ (by first | exact Nat.le_refl _ | (simp; done) | (simp; omega) | omega) _) | (with_reducible refine below_drewN ?_ _) | (with_reducible refine Below.drew ?_))
  | true =>
    have hv := square_valid hs
    rw [hs, Bool.true_and] at hok
    have hs' := hs
    obtain ⟨r, rfl, rfl, hr1, hr, hnr, _⟩ := square_nat hs'
    rw [Int.toNat_natCast] at hok ⊢
    obtain ⟨p, o, rfl, _, _, _⟩ := h.at (show 0 < N by rw [hnr]; exact Nat.mul_pos hr1 hr1)
    obtain ⟨RV, hRV⟩ : ∃ RV, RV = rayV r Z Y := ⟨_, rfl⟩
    have HN := Lib.hid hnr
    have HOK := Lib.hid hok
    have HV := Lib.hid hv
    rw [← hRV]
    have HRV := Lib.hid hRV
    clear hnr hok hs' hv hRV
    go_enter Try.func31, Try.ntmps31
    go_wp2_with fail
    go_at_call 26
    refine (specSquare_any _ r r _ N c Z _ hn (Box.new _ _ _ _ _ _ _) (h.below (by repeat first | (with_reducible exact Below.refl _ _) | (with_reducible refine Below.setCell ?_ (by first | exact Nat.le_refl _ | (simp; done) | (simp; omega) | omega) _) | (with_reducible refine Below.alloc ?_ (by first | exact Nat.le_refl _ | (simp; done) | (simp; omega) | omega) _) | (with_reducible refine below_drewN ?_ _) | (with_reducible refine Below.drew ?_)) (Nat.le_refl _))).mono ?_
    rintro e w1 ⟨rfl, m1, rfl⟩
    have B1 : Below w.heap.size w ((w.alloc (.cells #[.int .i64 r, .int .i64 r, .slice (some ⟨p, o, none⟩) N c] 29)).drewN m1) := (by repeat first | (with_reducible exact Below.refl _ _) | (with_reducible refine Below.setCell ?_ (by first | exact Nat.le_refl _ | (simp; done) | (simp; omega) | omega) _) | (with_reducible refine Below.alloc ?_ (by first | exact Nat.le_refl _ | (simp; done) | (simp; omega) | omega) _) | (with_reducible refine below_drewN ?_ _) | (with_reducible refine Below.drew ?_))
    have ht := fun W hW hW2 => specTimes_sq r N p o c n2 d b Z Y W hr1 hr HN.out HV.out hm hW hW2
    cases hk : tkB r n2 Z Y with
    | false =>
      rw [hk] at ht
      obtain rfl : ok = false := by rw [HOK.out]; unfold rayB; rw [hk]; rfl
      clear hk
      go_wp2_with fail
      go_at_call 30
      refine (ht _ (h.below B1 (Nat.le_refl _)) (h2.below B1 (Nat.le_refl _))).mono ?_
      rintro e w2 ⟨g, dg, X, rfl, oX, hX, b2⟩
      have B2 := Lib.hid (B1.trans (b2.mono B1.size))
      clear b2 B1 oX hX
      go_wp2_with fail
      go_ret2
      exact num_no B2.out
    | true =>
      rw [hk] at ht
      obtain ⟨rfl, hvv, hfin⟩ := tk_nat hk
      have HK := Lib.hid hk
      clear hk hvv hfin
      go_wp2_with fail
      go_at_call 30
      refine (ht _ (h.below B1 (Nat.le_refl _)) (h2.below B1 (Nat.le_refl _))).mono ?_
      rintro e w2 ⟨g, dg, X, rfl, fX, hX, b2⟩
      have B2 := B1.trans (b2.mono B1.size)
      have hX' := Lib.hid hX
      have fY := h2.below B2 (Nat.le_refl _)
      clear b2 B1 hX ht
      go_wp2_with fail
      go_at_call 65
      refine (specDot_any b b n2 d n2 d Y Y _ (by omega) (Nat.le_refl _) (by omega) fY fY).mono ?_
      rintro e w3 ⟨rs, rfl, hrs, m3, rfl⟩
      have hrsc := hrs.1
      have c0 : cn .f32 0 = some 0 := by kernel_rfl
      obtain ⟨SS, hSS⟩ : ∃ SS, SS = dotG (vals Y) (vals Y) n2 := ⟨_, rfl⟩
      rw [← hSS] at hrs hrsc
      have HSS := Lib.hid hSS
      clear hSS
      cases hz : isZero SS with
      | true =>
        have hz' : (ford .f32 SS (some 0) == some .eq) = true := hz
        obtain rfl : ok = false := by rw [HOK.out]; unfold rayB; rw [HK.out, ← HSS.out, hz]; rfl
        have B2' := Lib.hid B2
        clear B2 hz
        go_wp2_with fail
        go_ret2
        exact num_no (below_drewN B2'.out _)
      | false =>
        have hz' : (ford .f32 SS (some 0) == some .eq) = false := hz
        have hok2 : ok = finite .f32 RV := by rw [HOK.out]; unfold rayB; rw [HK.out, ← HSS.out, hz, HRV.out]; rfl
        have HOK2 := Lib.hid hok2
        have B2' := Lib.hid B2
        clear hz hok2
        go_wp2_with fail
        go_at_call 65
        refine (specDot_any b g n2 d n2 dg Y X _ (by omega) (Nat.le_refl _) (by omega) fY.drewN fX.drewN).mono ?_
        rintro e w4 ⟨rt, rfl, hrt, m4, rfl⟩
        clear hz' B2 hrsc
        go_wp2_with (first | (refine wpList_farith rfl _ _ _ _ _ rfl rfl _ _ _ rfl rfl (by first | assumption | (with_reducible exact FV.ofInt _ _) | (with_reducible exact FV.neg (by assumption)) | exact FV.lit (by kernel_rfl) (by kernel_rfl)) (by first | assumption | (with_reducible exact FV.ofInt _ _) | (with_reducible exact FV.neg (by assumption)) | exact FV.lit (by kernel_rfl) (by kernel_rfl)) ?_; intro r m hr))
        have hrv : FV .f32 _ RV := FV.of_eq (by assumption) (by rw [HRV.out]; unfold rayV; rw [← HSS.out, dotG_congr fun j hj => ⟨rfl, hX'.out j hj⟩])
        go_at_call 66
        refine (specNumber_any _ hrv _).mono ?_
        rintro e w5 ⟨r5, rfl, hr5, m5, rfl⟩
        clear hrv hrs hrt
        go_wp2_with fail
        go_ret2
        rw [HOK2.out]
        exact ⟨_, rfl, hr5, (by repeat first | (with_reducible exact B2'.out) | (with_reducible refine Below.setCell ?_ (by first | exact Nat.le_refl _ | (simp; done) | (simp; omega) | omega) _) | (with_reducible refine Below.alloc ?_ (by first | exact Nat.le_refl _ | (simp; done) | (simp; omega) | omega) _) | (with_reducible refine below_drewN ?_ _) | (with_reducible refine Below.drew ?_))⟩
theorem keyRayleighOf (R C : Int) (n : Nat) (Z : Nat → Nat) (n2 : Nat) (Y : Nat → Nat) (hn : n ≤ 1048576) (hm : n2 ≤ 1048576) : ∃ (ok : Bool) (X : Option Nat),
    (∀ a c b d W, FS .f32 W a n c Z → FS .f32 W b n2 d Y → Calls Try.prog 31 #[.agg #[.int .i64 R, .int .i64 C, .slice a n c], .slice b n2 d] W (NumBel ok X W)) ∧
    (∀ a c b d W, FS .f32 W a n c Z → FS .f32 W b n2 d Y → Calls Try.prog 35 #[.agg #[.int .i64 R, .int .i64 C, .slice a n c], .slice b n2 d] W (NumBel ok X W)) :=
  ⟨_, _, fun a c b d W h h2 => specRay_any R C a b n c n2 d Z Y W hn hm h h2, fun a c b d W h h2 => implRay_any R C a b n c n2 d Z Y W hn hm h h2⟩
end Go.Proofs.Ytadnnfeeainadaa
