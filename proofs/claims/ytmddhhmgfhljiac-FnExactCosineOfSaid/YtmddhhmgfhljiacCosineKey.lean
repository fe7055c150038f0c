/- Helper: the size of the cosine of two lists, of the program and of its reference. Conditions: none. -/
import Derived.Test.YtmddhhmgfhljiacUnitVec
import Derived.Test.YtmddhhmgfhljiacNormKey
import Derived.Test.YtmddhhmgfhljiacKeys
set_option linter.unusedVariables false
set_option linter.unusedSimpArgs false
namespace Go.Proofs.Ytmddhhmgfhljiac
open Go.RowKit

section
open Ieee
theorem sub_nonfin {X : Option Nat} (h : finite .f32 X = false) : finite .f32 (fop .sub .f32 (some 0) X) = false := by
  cases X with
  | none => rfl
  | some x =>
    have es : fop .sub .f32 (some 0) (some x) = ((single.read 0).sum (single.read x).opposite).map single.write := rfl
    have e0 : single.read 0 = .number false 0 (-149) := by decide +kernel
    rcases read_single x with ⟨s, hr⟩ | ⟨s, t, hr⟩ | ⟨s, m, e, hr, hm, h1, h2⟩
    · rw [es, e0, hr]
      cases s <;> decide +kernel
    · rw [es, e0, hr]; rfl
    · exfalso
      have hd : finite .f32 (some x) = (match single.read x with | .number .. => true | _ => false) := rfl
      rw [hd, hr] at h; cases h
theorem fin_size {X : Option Nat} (h : finite .f32 X = true) : finite .f32 (fsize X) = true := by
  cases X with
  | none => cases h
  | some x =>
    obtain ⟨e1, e2, e3, e4⟩ := single_consts
    have hd : finite .f32 (some x) = (match single.read x with | .number .. => true | _ => false) := rfl
    rw [hd] at h
    by_cases hq : x % 2147483648 < 2139095040
    · have hm : (x % 2147483648) % 2147483648 = x % 2147483648 := Nat.mod_mod _ _
      have hd2 : finite .f32 (fsize (some x)) = (match single.read (x % 2147483648) with | .number .. => true | _ => false) := rfl
      rw [hd2]
      unfold Format.read
      simp only [e1, e2, e3, e4, hm]
      by_cases hz : x % 2147483648 < 8388608
      · rw [if_pos hz]
      · rw [if_neg hz, if_pos hq]
    · exfalso
      unfold Format.read at h
      simp only [e1, e2, e3, e4] at h
      rw [if_neg (by omega), if_neg hq] at h
      by_cases hz : x % 2147483648 = 2139095040
      · rw [if_pos hz] at h; cases h
      · rw [if_neg hz] at h; cases h
end
/-- Whether a product of two lists is told. -/
def cdotOk (n n2 : Nat) (V W : Nat → Option Nat) : Bool := vecsB n n2 V W && finite .f32 (dotG V W n)
theorem cdotOk_V {n n2 : Nat} {Z Y : Nat → Nat} {V W : Nat → Option Nat} (h1 : ∀ i, i < n → vals Z i = V i) (h : ∀ i, i < n2 → vals Y i = W i) : dotOk n n2 Z Y = cdotOk n n2 V W := by
  unfold dotOk cdotOk
  have e : vecsB n n2 (vals Z) (vals Y) = vecsB n n2 V W := by
    unfold vecsB vecB
    rw [allFin_congr h, allFin_congr h1]
  rw [e]
  cases hv : vecsB n n2 V W with
  | false => rfl
  | true =>
    obtain rfl := vecsB_len hv
    rw [dotG_congr fun j hj => ⟨h1 j hj, h j hj⟩]
def cosOk (n n2 : Nat) (V W : Nat → Option Nat) : Bool := unitOk n V && (unitOk n2 W && cdotOk n n2 (unitV n V) (unitV n2 W))
def cosX (n n2 : Nat) (V W : Nat → Option Nat) : Option Nat := pick (cosOk n n2 V W) (fsize (dotG (unitV n V) (unitV n2 W) n))
theorem cosX_no {n n2 : Nat} {V W : Nat → Option Nat} (h : cosOk n n2 V W = false) : cosX n n2 V W = some 0 := by unfold cosX; rw [h]; rfl
theorem pick_fin {ok : Bool} {X : Option Nat} (h : ok = true → finite .f32 X = true) : finite .f32 (pick ok X) = true := by
  cases ok with
  | true => exact h rfl
  | false => show finite .f32 (some 0) = true; decide +kernel
theorem unit_vec {n : Nat} {V : Nat → Option Nat} (h : unitOk n V = true) : vecB n V = true ∧ vecB n (unitV n V) = true := by
  unfold unitOk at h
  simp only [Bool.and_eq_true] at h
  obtain ⟨h1, h2, h3⟩ := h
  refine ⟨h1, ?_⟩
  obtain ⟨p1, p2, p3⟩ := vec_parts h1
  unfold vecB
  rw [allFin_allU (unit_fin p3 h2 h3)]
  simp [p1, p2]
theorem cosOk_vecs {n n2 : Nat} {V W : Nat → Option Nat} (h : vecsB n n2 V W = false) : cosOk n n2 V W = false := by
  cases ho : cosOk n n2 V W with
  | false => rfl
  | true =>
    exfalso
    unfold cosOk at ho
    simp only [Bool.and_eq_true] at ho
    obtain ⟨h1, h2, h3⟩ := ho
    unfold cdotOk at h3
    simp only [Bool.and_eq_true] at h3
    obtain rfl := vecsB_len h3.1
    unfold vecsB at h
    rw [(unit_vec h1).1, (unit_vec h2).1] at h
    simp at h
/-- What a call of both sides tells of the unit of a list: its length, where it fails 0. -/
theorem nOwn_len {ok : Bool} {n : Nat} {V : Nat → Option Nat} {w : World} {e : Ending} {w' : World} (h : NOwnIf ok n V w e w') :
    ∃ g d Y, e = .returned (.tuple #[.slice g (if ok then n else 0 : Nat) d, .bool ok]) ∧ FS .f32 w' g (if ok then n else 0) d Y ∧ (ok = true → ∀ i, i < n → vals Y i = V i) ∧ Below w.heap.size w w' := by
  cases ok with
  | true => obtain ⟨g, d, Y, e1, o, v, b⟩ := h; exact ⟨g, d, Y, e1, o.fs, fun _ => v, b⟩
  | false => obtain ⟨g, d, Y, e1, o, v, b⟩ := h; exact ⟨g, d, Y, e1, o.fs, fun q => (by cases q), b⟩
set_option maxRecDepth 20000 in
theorem specSize_non (x : Nat) {X : Option Nat} (fx : FV .f32 x X) (hx : finite .f32 X = false) (w : World) :
    Calls Try.prog 56 #[.float .f32 x] w fun e w' => ∃ r F, e = .returned (.float .f32 r) ∧ FV .f32 r F ∧ finite .f32 F = false ∧ ∃ n, w' = w.drewN n := by
  have hS := Lib.hid (sub_nonfin hx)
  have hX := Lib.hid hx
  have h1 := fx.1
  have c0 : cn .f32 0 = some 0 := cn_of (by decide +kernel)
  clear hx
  cases ho : ford .f32 X (some 0) with
  | none =>
    go_enter Try.func56, Try.ntmps56
    go_wp2_with (first | (refine wpList_farith rfl _ _ _ _ _ rfl rfl _ _ _ rfl rfl (by first | assumption | (with_reducible exact FV.ofInt _ _) | (with_reducible exact FV.neg (by assumption)) | exact FV.lit (by kernel_rfl) (by kernel_rfl)) (by first | assumption | (with_reducible exact FV.ofInt _ _) | (with_reducible exact FV.neg (by assumption)) | exact FV.lit (by kernel_rfl) (by kernel_rfl)) ?_; intro r m hr))
    go_ret
    exact ⟨_, _, rfl, fx, hX.out, 0, rfl⟩
  | some o =>
    cases o with
    | lt =>
      go_enter Try.func56, Try.ntmps56
      go_wp2_with (first | (refine wpList_farith rfl _ _ _ _ _ rfl rfl _ _ _ rfl rfl (by first | assumption | (with_reducible exact FV.ofInt _ _) | (with_reducible exact FV.neg (by assumption)) | exact FV.lit (by kernel_rfl) (by kernel_rfl)) (by first | assumption | (with_reducible exact FV.ofInt _ _) | (with_reducible exact FV.neg (by assumption)) | exact FV.lit (by kernel_rfl) (by kernel_rfl)) ?_; intro r m hr))
      go_ret
      exact ⟨_, _, rfl, by assumption, hS.out, _, rfl⟩
    | eq =>
      go_enter Try.func56, Try.ntmps56
      go_wp2_with (first | (refine wpList_farith rfl _ _ _ _ _ rfl rfl _ _ _ rfl rfl (by first | assumption | (with_reducible exact FV.ofInt _ _) | (with_reducible exact FV.neg (by assumption)) | exact FV.lit (by kernel_rfl) (by kernel_rfl)) (by first | assumption | (with_reducible exact FV.ofInt _ _) | (with_reducible exact FV.neg (by assumption)) | exact FV.lit (by kernel_rfl) (by kernel_rfl)) ?_; intro r m hr))
      go_ret
      exact ⟨_, _, rfl, by assumption, hS.out, _, rfl⟩
    | gt =>
      go_enter Try.func56, Try.ntmps56
      go_wp2_with (first | (refine wpList_farith rfl _ _ _ _ _ rfl rfl _ _ _ rfl rfl (by first | assumption | (with_reducible exact FV.ofInt _ _) | (with_reducible exact FV.neg (by assumption)) | exact FV.lit (by kernel_rfl) (by kernel_rfl)) (by first | assumption | (with_reducible exact FV.ofInt _ _) | (with_reducible exact FV.neg (by assumption)) | exact FV.lit (by kernel_rfl) (by kernel_rfl)) ?_; intro r m hr))
      go_ret
      exact ⟨_, _, rfl, fx, hX.out, 0, rfl⟩
set_option maxRecDepth 20000 in
set_option maxHeartbeats 1000000 in
theorem implCos_any (a b : Option Addr) (n c m d : Nat) (Z Y : Nat → Nat) (w : World) (hn : n ≤ 1048576) (hm : m ≤ 1048576) (h : FS .f32 w a n c Z) (h2 : FS .f32 w b m d Y) :
    Calls Try.prog 29 #[.slice a n c, .slice b m d] w (NumBel (cosOk n m (vals Z) (vals Y)) (cosX n m (vals Z) (vals Y)) w) := by
  go_enter Try.func29, Try.ntmps29
  go_wp2_with fail
  go_at_call 27
  refine (implUnit_any a n c Z _ hn h).mono ?_
  intro e w1 hr
  obtain ⟨g1, d1, Y1, rfl, f1, v1, b1⟩ := nOwn_len hr
  have B1 : Below w.heap.size w w1 := b1
  have V1 := Lib.hid v1
  clear hr b1 v1
  obtain ⟨k1, hk1⟩ : ∃ k : Nat, k = (if unitOk n (vals Z) then n else 0 : Nat) := ⟨_, rfl⟩
  rw [← hk1] at f1 ⊢
  have K1 := Lib.hid hk1
  have hb1 : k1 ≤ 1048576 := by rw [hk1]; split <;> omega
  clear hk1
  go_wp2_with fail
  go_at_call 27
  refine (implUnit_any b m d Y _ hm (h2.below B1 (Nat.le_refl _))).mono ?_
  intro e w2 hr
  obtain ⟨g2, d2, Y2, rfl, f2, v2, b2⟩ := nOwn_len hr
  have B2 : Below w.heap.size w w2 := B1.trans (b2.mono B1.size)
  have F1 := f1.below b2 (Nat.le_refl _)
  have V2 := Lib.hid v2
  clear hr b2 v2
  obtain ⟨k2, hk2⟩ : ∃ k : Nat, k = (if unitOk m (vals Y) then m else 0 : Nat) := ⟨_, rfl⟩
  rw [← hk2] at f2 ⊢
  have K2 := Lib.hid hk2
  have hb2 : k2 ≤ 1048576 := by rw [hk2]; split <;> omega
  clear hk2
  have HK : Hid (dotOk k1 k2 Y1 Y2 = cosOk n m (vals Z) (vals Y) ∧ (dotOk k1 k2 Y1 Y2 = true → fsize (dotG (vals Y1) (vals Y2) k1) = fsize (dotG (unitV n (vals Z)) (unitV m (vals Y)) n))) := Lib.hid (by
    have q1 := K1.out
    have q2 := K2.out
    cases hu1 : unitOk n (vals Z) with
    | false =>
      rw [hu1] at q1
      have z : k1 = 0 := q1
      subst z
      have e1 : dotOk 0 k2 Y1 Y2 = false := by unfold dotOk vecsB vecB; simp
      refine ⟨?_, fun q => ?_⟩
      · rw [e1]; unfold cosOk; rw [hu1]; rfl
      · rw [e1] at q; cases q
    | true =>
      rw [hu1] at q1
      have z : k1 = n := q1
      subst z
      cases hu2 : unitOk m (vals Y) with
      | false =>
        rw [hu2] at q2
        have z : k2 = 0 := q2
        subst z
        have e1 : dotOk k1 0 Y1 Y2 = false := by unfold dotOk vecsB vecB; simp
        refine ⟨?_, fun q => ?_⟩
        · rw [e1]; unfold cosOk; rw [hu1, hu2]; rfl
        · rw [e1] at q; cases q
      | true =>
        rw [hu2] at q2
        have z : k2 = m := q2
        subst z
        have e1 := cdotOk_V (V1.out hu1) (V2.out hu2)
        refine ⟨?_, fun q => ?_⟩
        · rw [e1]; unfold cosOk; rw [hu1, hu2]; rfl
        · rw [e1] at q
          unfold cdotOk at q
          simp only [Bool.and_eq_true] at q
          obtain rfl := vecsB_len q.1
          rw [dotG_congr fun j hj => ⟨V1.out hu1 j hj, V2.out hu2 j hj⟩])
  go_wp2_with fail
  go_at_call 58
  refine (implDotVectors_any _ _ k1 _ k2 _ Y1 Y2 _ hb1 hb2 F1 f2).mono ?_
  rintro e w3 ⟨r3, rfl, hr3, m3, rfl⟩
  have hpf : finite .f32 (pick (dotOk k1 k2 Y1 Y2) (dotG (vals Y1) (vals Y2) k1)) = true := pick_fin fun q => by
    unfold dotOk at q
    simp only [Bool.and_eq_true] at q
    exact q.2
  have HF : Hid (fsize (pick (dotOk k1 k2 Y1 Y2) (dotG (vals Y1) (vals Y2) k1)) = cosX n m (vals Z) (vals Y)) := Lib.hid (by
    unfold cosX
    rw [← HK.out.1]
    cases hd : dotOk k1 k2 Y1 Y2 with
    | false => rfl
    | true => exact HK.out.2 hd)
  have HO := Lib.hid HK.out.1
  generalize pick (dotOk k1 k2 Y1 Y2) (dotG (vals Y1) (vals Y2) k1) = PX at hr3 hpf HF
  generalize dotOk k1 k2 Y1 Y2 = OO at HO ⊢
  go_wp2_with fail
  go_at_call 59
  refine (implAbs_any _ hr3 hpf _).mono ?_
  rintro e w4 ⟨r4, rfl, hr4, m4, rfl⟩
  go_wp2_with fail
  go_ret2
  exact ⟨r4, by rw [HO.out]; first | done | rfl, FV.of_eq hr4 HF.out, (by repeat first | (with_reducible exact B2) | (with_reducible refine Below.setCell ?_ (by first | exact Nat.le_refl _ | (simp; done) | (simp; omega) | omega) _) | (with_reducible refine Below.alloc ?_ (by first | exact Nat.le_refl _ | (simp; done) | (simp; omega) | omega) _) | (with_reducible refine below_drewN ?_ _) | (with_reducible refine Below.drew ?_))⟩
set_option maxRecDepth 20000 in
set_option maxHeartbeats 1000000 in
theorem specCos_any (a b : Option Addr) (n c m d : Nat) (Z Y : Nat → Nat) (w : World) (hn : n ≤ 1048576) (hm : m ≤ 1048576) (h : FS .f32 w a n c Z) (h2 : FS .f32 w b m d Y) :
    Calls Try.prog 28 #[.slice a n c, .slice b m d] w (NumBel (cosOk n m (vals Z) (vals Y)) (cosX n m (vals Z) (vals Y)) w) := by
  have z0 : FV .f32 0 (some 0) := FV.lit (by kernel_rfl) (by kernel_rfl)
  cases hv : vecsB n m (vals Z) (vals Y) with
  | false =>
    have HK := Lib.hid (cosOk_vecs hv)
    go_enter Try.func28, Try.ntmps28
    go_wp2_with fail
    go_at_call 54
    refine (specVectors_any _ _ _ _ _ _ Z Y _ hn hm h h2).mono ?_
    rw [hv]
    rintro e w1 ⟨rfl, m1, rfl⟩
    clear hv
    go_wp2_with fail
    go_ret2
    exact ⟨0, by rw [HK.out]; first | done | rfl, by rw [cosX_no HK.out]; exact z0, (by repeat first | (with_reducible exact Below.refl _ _) | (with_reducible refine Below.setCell ?_ (by first | exact Nat.le_refl _ | (simp; done) | (simp; omega) | omega) _) | (with_reducible refine Below.alloc ?_ (by first | exact Nat.le_refl _ | (simp; done) | (simp; omega) | omega) _) | (with_reducible refine below_drewN ?_ _) | (with_reducible refine Below.drew ?_))⟩
  | true =>
    obtain rfl := vecsB_len hv
    go_enter Try.func28, Try.ntmps28
    go_wp2_with fail
    go_at_call 54
    refine (specVectors_any _ _ _ _ _ _ Z Y _ hn hm h h2).mono ?_
    rw [hv]
    rintro e w1 ⟨rfl, m1, rfl⟩
    clear hv
    go_wp2_with fail
    go_at_call 26
    have HU1 := specUnit_any a n c Z (w.drewN m1) hn (FS.drewN h)
    cases hu1 : unitOk n (vals Z) with
    | false =>
      have HK : Hid (cosOk n n (vals Z) (vals Y) = false) := Lib.hid (by unfold cosOk; rw [hu1]; rfl)
      rw [hu1] at HU1
      refine HU1.mono ?_
      clear HU1 hu1
      rintro e w2 ⟨g1, d1, Y1, rfl, f1, v1, b1⟩
      have B1 : Below w.heap.size w w2 := Below.trans (by repeat first | (with_reducible exact Below.refl _ _) | (with_reducible refine Below.setCell ?_ (by first | exact Nat.le_refl _ | (simp; done) | (simp; omega) | omega) _) | (with_reducible refine Below.alloc ?_ (by first | exact Nat.le_refl _ | (simp; done) | (simp; omega) | omega) _) | (with_reducible refine below_drewN ?_ _) | (with_reducible refine Below.drew ?_)) (b1.mono (by simp [World.drewN]))
      clear b1 v1
      go_wp2_with fail
      go_at_call 26
      have HU2 := specUnit_any b n d Y w2 hn (h2.below B1 (Nat.le_refl _))
      cases hu2 : unitOk n (vals Y) with
      | false =>
        rw [hu2] at HU2
        refine HU2.mono ?_
        clear HU2 hu2
        rintro e w3 ⟨g2, d2, Y2, rfl, f2, v2, b2⟩
        have B2 : Below w.heap.size w w3 := B1.trans (b2.mono B1.size)
        clear b2 v2
        go_wp2_with fail
        go_ret2
        exact ⟨0, by rw [HK.out]; first | done | rfl, by rw [cosX_no HK.out]; exact z0, (by repeat first | (with_reducible exact B2) | (with_reducible refine Below.setCell ?_ (by first | exact Nat.le_refl _ | (simp; done) | (simp; omega) | omega) _) | (with_reducible refine Below.alloc ?_ (by first | exact Nat.le_refl _ | (simp; done) | (simp; omega) | omega) _) | (with_reducible refine below_drewN ?_ _) | (with_reducible refine Below.drew ?_))⟩
      | true =>
        rw [hu2] at HU2
        refine HU2.mono ?_
        clear HU2 hu2
        rintro e w3 ⟨g2, d2, Y2, rfl, f2, v2, b2⟩
        have B2 : Below w.heap.size w w3 := B1.trans (b2.mono B1.size)
        clear b2 v2
        go_wp2_with fail
        go_ret2
        exact ⟨0, by rw [HK.out]; first | done | rfl, by rw [cosX_no HK.out]; exact z0, (by repeat first | (with_reducible exact B2) | (with_reducible refine Below.setCell ?_ (by first | exact Nat.le_refl _ | (simp; done) | (simp; omega) | omega) _) | (with_reducible refine Below.alloc ?_ (by first | exact Nat.le_refl _ | (simp; done) | (simp; omega) | omega) _) | (with_reducible refine below_drewN ?_ _) | (with_reducible refine Below.drew ?_))⟩
    | true =>
      rw [hu1] at HU1
      refine HU1.mono ?_
      clear HU1
      rintro e w2 ⟨g1, d1, Y1, rfl, f1, v1, b1⟩
      have B1 : Below w.heap.size w w2 := Below.trans (by repeat first | (with_reducible exact Below.refl _ _) | (with_reducible refine Below.setCell ?_ (by first | exact Nat.le_refl _ | (simp; done) | (simp; omega) | omega) _) | (with_reducible refine Below.alloc ?_ (by first | exact Nat.le_refl _ | (simp; done) | (simp; omega) | omega) _) | (with_reducible refine below_drewN ?_ _) | (with_reducible refine Below.drew ?_)) (b1.mono (by simp [World.drewN]))
      have V1 := Lib.hid v1
      have U1 := Lib.hid hu1
      clear b1 v1 hu1
      go_wp2_with fail
      go_at_call 26
      have HU2 := specUnit_any b n d Y w2 hn (h2.below B1 (Nat.le_refl _))
      cases hu2 : unitOk n (vals Y) with
      | false =>
        have HK : Hid (cosOk n n (vals Z) (vals Y) = false) := Lib.hid (by unfold cosOk; rw [U1.out, hu2]; rfl)
        rw [hu2] at HU2
        refine HU2.mono ?_
        clear HU2 hu2
        rintro e w3 ⟨g2, d2, Y2, rfl, f2, v2, b2⟩
        have B2 : Below w.heap.size w w3 := B1.trans (b2.mono B1.size)
        clear b2 v2
        go_wp2_with fail
        go_ret2
        exact ⟨0, by rw [HK.out]; first | done | rfl, by rw [cosX_no HK.out]; exact z0, (by repeat first | (with_reducible exact B2) | (with_reducible refine Below.setCell ?_ (by first | exact Nat.le_refl _ | (simp; done) | (simp; omega) | omega) _) | (with_reducible refine Below.alloc ?_ (by first | exact Nat.le_refl _ | (simp; done) | (simp; omega) | omega) _) | (with_reducible refine below_drewN ?_ _) | (with_reducible refine Below.drew ?_))⟩
      | true =>
        rw [hu2] at HU2
        refine HU2.mono ?_
        clear HU2
        rintro e w3 ⟨g2, d2, Y2, rfl, f2, v2, b2⟩
        have B2 : Below w.heap.size w w3 := B1.trans (b2.mono B1.size)
        have F1 := f1.below b2 (Nat.le_refl _)
        have HD : Hid (dotG (vals Y1) (vals Y2) n = dotG (unitV n (vals Z)) (unitV n (vals Y)) n ∧ cosOk n n (vals Z) (vals Y) = finite .f32 (dotG (unitV n (vals Z)) (unitV n (vals Y)) n)) := Lib.hid ⟨dotG_congr fun j hj => ⟨V1.out j hj, v2 j hj⟩, by
          unfold cosOk cdotOk vecsB
          rw [U1.out, hu2, (unit_vec U1.out).2, (unit_vec hu2).2]
          simp⟩
        clear b2 v2 hu2
        go_wp2_with fail
        go_at_call 57
        refine (specDot_any _ _ n _ n _ Y1 Y2 _ hn (Nat.le_refl _) hn F1 f2).mono ?_
        rintro e w4 ⟨r4, rfl, hr4, m4, rfl⟩
        have hr5 : FV .f32 r4 (dotG (unitV n (vals Z)) (unitV n (vals Y)) n) := FV.of_eq hr4 HD.out.1
        have HD2 := Lib.hid HD.out.2
        have HX : Hid (cosX n n (vals Z) (vals Y) = pick (finite .f32 (dotG (unitV n (vals Z)) (unitV n (vals Y)) n)) (fsize (dotG (unitV n (vals Z)) (unitV n (vals Y)) n))) := Lib.hid (by unfold cosX; rw [HD.out.2])
        clear HD hr4
        generalize dotG (unitV n (vals Z)) (unitV n (vals Y)) n = DD at hr5 HD2 HX
        cases hf : finite .f32 DD with
        | true =>
          go_wp2_with fail
          go_at_call 56
          refine (specSize_any _ hr5 hf _).mono ?_
          rintro e w5 ⟨r6, rfl, hr6, m6, rfl⟩
          have HF := Lib.hid hf
          clear hf
          have hf2 : Hid (finite .f32 (fsize DD) = true) := Lib.hid (fin_size HF.out)
          go_wp2_with fail
          go_at_call 55
          refine (specNumber_any _ hr6 _).mono ?_
          rw [hf2.out]
          rintro e w7 ⟨r7, rfl, hr7, m7, rfl⟩
          go_wp2_with fail
          go_ret2
          exact ⟨r7, by rw [HD2.out, HF.out]; first | done | rfl, FV.of_eq hr7 (by rw [HX.out, HF.out]), (by repeat first | (with_reducible exact B2) | (with_reducible refine Below.setCell ?_ (by first | exact Nat.le_refl _ | (simp; done) | (simp; omega) | omega) _) | (with_reducible refine Below.alloc ?_ (by first | exact Nat.le_refl _ | (simp; done) | (simp; omega) | omega) _) | (with_reducible refine below_drewN ?_ _) | (with_reducible refine Below.drew ?_))⟩
        | false =>
          go_wp2_with fail
          go_at_call 56
          refine (specSize_non _ hr5 hf _).mono ?_
          rintro e w5 ⟨r6, F6, rfl, hr6, hf6, m6, rfl⟩
          have HF := Lib.hid hf
          have HF6 := Lib.hid hf6
          clear hf hf6
          go_wp2_with fail
          go_at_call 55
          refine (specNumber_any _ hr6 _).mono ?_
          rw [HF6.out]
          rintro e w7 ⟨r7, rfl, hr7, m7, rfl⟩
          go_wp2_with fail
          go_ret2
          exact ⟨r7, by rw [HD2.out, HF.out]; first | done | rfl, FV.of_eq hr7 (by rw [HX.out, HF.out]; rfl), (by repeat first | (with_reducible exact B2) | (with_reducible refine Below.setCell ?_ (by first | exact Nat.le_refl _ | (simp; done) | (simp; omega) | omega) _) | (with_reducible refine Below.alloc ?_ (by first | exact Nat.le_refl _ | (simp; done) | (simp; omega) | omega) _) | (with_reducible refine below_drewN ?_ _) | (with_reducible refine Below.drew ?_))⟩
theorem keyCosineOf (n : Nat) (Z : Nat → Nat) (m : Nat) (Y : Nat → Nat) (hn : n ≤ 1048576) (hm : m ≤ 1048576) : ∃ (ok : Bool) (X : Option Nat),
    (∀ a c b d W, FS .f32 W a n c Z → FS .f32 W b m d Y → Calls Try.prog 28 #[.slice a n c, .slice b m d] W (NumBel ok X W)) ∧
    (∀ a c b d W, FS .f32 W a n c Z → FS .f32 W b m d Y → Calls Try.prog 29 #[.slice a n c, .slice b m d] W (NumBel ok X W)) :=
  ⟨_, _, fun a c b d W h h2 => specCos_any a b n c m d Z Y W hn hm h h2, fun a c b d W h h2 => implCos_any a b n c m d Z Y W hn hm h h2⟩
end Go.Proofs.Ytmddhhmgfhljiac
