/- Helper: the law on powers and logarithms. Conditions: none. -/
import Derived.Test.YtnjkabckbnbboaaPowTable
set_option linter.unusedVariables false
namespace Go.Proofs.Ytnjkabckbnbboaa
open Go.RowKit

theorem tab_wf : ∀ t : Nat, t < 129 → ((FloatKind.f32.decode (eq8 t)).isNaN = false ∧ (Lit.float .f32 (eq8 t)).wf = true) ∧ (FloatKind.f32.decode (lq t)).isNaN = false ∧ (Lit.float .f32 (lq t)).wf = true := by decide +kernel
theorem FV.eq8 {t : Nat} (h : t < 129) : FV .f32 (eq8 t) (some (eq8 t)) := FV.lit (tab_wf t h).1.1 (tab_wf t h).1.2
theorem FV.lq {t : Nat} (h : t < 129) : FV .f32 (lq t) (some (lq t)) := FV.lit (tab_wf t h).2.1 (tab_wf t h).2.2
theorem expT (t : Nat) (ht : t < 129) (w : World) : Calls Try.prog 18 #[.float .f32 (zq t)] w fun e w' => e = .returned (.float .f32 (eq8 t)) ∧ FV .f32 (eq8 t) (some (eq8 t)) ∧ ∃ n, w' = w.drewN n :=
  (implExp_any _ (FV.zq ht) (zq_top t ht).1 (zq_top t ht).2 (fits_of_lt2 (Lt2.of_b (exp_of t ht).1)) w).mono fun e w' ⟨r, he, hr, hn⟩ => by
    rw [(exp_of t ht).2] at hr
    have h1 := hr.eq
    subst h1
    exact ⟨he, hr, hn⟩
theorem logT (t : Nat) (ht : t < 129) (ft : FV .f32 (eq8 t) (some (eq8 t))) (w : World) : Calls Try.prog 19 #[.float .f32 (eq8 t)] w fun e w' => e = .returned (.float .f32 (lq t)) ∧ FV .f32 (lq t) (some (lq t)) ∧ ∃ n, w' = w.drewN n :=
  (implLogN_any _ ft (eq8_pos t ht).1 (eq8_pos t ht).2.1 (eq8_pos t ht).2.2.1 w).mono fun e w' ⟨r, he, hr, hn⟩ => by
    rw [log_of t ht] at hr
    have h1 := hr.eq
    subst h1
    exact ⟨he, hr, hn⟩

theorem pow_facts (v u : Nat) (hv : v < 65) (hu : u < 65) : ∃ xb yb sb A B C L : Nat,
    fop .quo .f32 (some (floatOfInt .f32 ((v : Int) - 32))) (some 1090519040) = some xb ∧ fop .quo .f32 (some (floatOfInt .f32 ((u : Int) - 32))) (some 1090519040) = some yb ∧ fop .add .f32 (some xb) (some yb) = some sb ∧
    FV .f32 xb (some xb) ∧ FV .f32 yb (some yb) ∧ FV .f32 A (some A) ∧ FV .f32 B (some B) ∧ FV .f32 C (some C) ∧ FV .f32 L (some L) ∧
    (∀ w, Calls Try.prog 18 #[.float .f32 xb] w fun e w' => e = .returned (.float .f32 A) ∧ ∃ n, w' = w.drewN n) ∧
    (∀ w, Calls Try.prog 18 #[.float .f32 yb] w fun e w' => e = .returned (.float .f32 B) ∧ ∃ n, w' = w.drewN n) ∧
    (∀ w, Calls Try.prog 18 #[.float .f32 sb] w fun e w' => e = .returned (.float .f32 C) ∧ ∃ n, w' = w.drewN n) ∧
    (∀ w, Calls Try.prog 19 #[.float .f32 A] w fun e w' => e = .returned (.float .f32 L) ∧ ∃ n, w' = w.drewN n) ∧
    (ford .f64 (gapP (widen (some L)) (widen (some xb))) (some 4562254508917369340) == some .lt) = true ∧
    (ford .f64 (gapP (fop .mul .f64 (widen (some A)) (widen (some B))) (widen (some C))) (fop .mul .f64 (some 4562254508917369340) (widen (some C))) == some .lt) = true ∧
    (ford .f32 (some A) (some 0) == some .gt) = true := by
  have h1 : v + 32 < 129 := by omega
  have h2 : u + 32 < 129 := by omega
  have h3 : v + u < 129 := by omega
  exact ⟨zq (v + 32), zq (u + 32), zq (v + u), eq8 (v + 32), eq8 (u + 32), eq8 (v + u), lq (v + 32), zq_of v hv, zq_of u hu, zq_add v hv u hu, FV.zq h1, FV.zq h2, FV.eq8 h1, FV.eq8 h2, FV.eq8 h3, FV.lq h1,
    fun w => (expT _ h1 w).mono fun e w' h => ⟨h.1, h.2.2⟩, fun w => (expT _ h2 w).mono fun e w' h => ⟨h.1, h.2.2⟩, fun w => (expT _ h3 w).mono fun e w' h => ⟨h.1, h.2.2⟩,
    fun w => (logT _ h1 (FV.eq8 h1) w).mono fun e w' h => ⟨h.1, h.2.2⟩, gap_one v hv, gap_two v hv u hu, (eq8_pos _ h1).2.2.2⟩

theorem pow_ends : (∀ w, Calls Try.prog 18 #[.float .f32 0] w fun e w' => e = .returned (.float .f32 1065353216) ∧ ∃ n, w' = w.drewN n) ∧
    (∀ w, Calls Try.prog 19 #[.float .f32 1065353216] w fun e w' => e = .returned (.float .f32 0) ∧ ∃ n, w' = w.drewN n) := by
  have h64 := (wf32s 64 (by omega)).2.2
  obtain ⟨h1, h2, h3⟩ := h64
  refine ⟨fun w => ?_, fun w => ?_⟩
  · have h := expT 64 (by omega) w
    rw [h1, h2] at h
    exact h.mono fun e w' h => ⟨h.1, h.2.2⟩
  · have h := logT 64 (by omega) (FV.eq8 (by omega)) w
    rw [h2, h3] at h
    exact h.mono fun e w' h => ⟨h.1, h.2.2⟩

set_option maxHeartbeats 1000000 in
theorem law_FnPowers (w : World) (a : Option Addr) (n c : Nat) (Z : Nat → Int) (h : IS .u8 w a n c Z) (a2 : Option Addr) (n2 c2 : Nat) (Y : Nat → Int) (h2 : IS .u8 w a2 n2 c2 Y) :
    Calls Try.prog 4 #[.slice a n c, .slice a2 n2 c2] w fun e w' => e = .returned (.bool true) ∧ Below w.heap.size w w' := by
  have hm : n ≤ 9223372036854775807 := by have h1 := h.1; have h2 := h.2.1; unfold maxLen at h2; omega
  have hm2 : n2 ≤ 9223372036854775807 := by have h1 := h2.1; have h2 := h2.2.1; unfold maxLen at h2; omega
  by_cases hbig : 1048576 < n ∨ 1048576 < n2
  · go_enter Try.func4, Try.ntmps4
    go_wp2_with (go_at_call 8; refine (b10Long_yes _ _ _ _ _ _ _ hm hm2 hbig).mono ?_; rintro e w' ⟨rfl, rfl⟩)
    go_ret
    exact ⟨rfl, Below.refl _ _⟩
  have hn : n ≤ 1048576 := by omega
  have hn2 : n2 ≤ 1048576 := by omega
  clear hbig
  obtain ⟨kE, kL⟩ := pow_ends
  have c0 : cn .f32 0 = some 0 := cn_of (by decide +kernel)
  have c1 : cn .f32 1065353216 = some 1065353216 := cn_of (by decide +kernel)
  have cC : cn .f64 4562254508917369340 = some 4562254508917369340 := cn_of (by decide +kernel)
  have d0 : (ford .f32 (some 0) (some 0) == some .eq) = true := by decide +kernel
  have d1 : (ford .f32 (some 1065353216) (some 1065353216) == some .eq) = true := by decide +kernel
  go_enter Try.func4, Try.ntmps4
  go_wp2_with fail
  go_at_call 8
  refine (b10Long_no _ _ _ _ _ _ _ hn hn2).mono ?_
  rintro e w' ⟨rfl, rfl⟩
  go_wp2_with fail
  go_at_call 9
  refine (b10At_any _ _ _ _ _ hn h 0 65 (by omega) (by omega) (by omega) (by omega)).mono ?_
  rintro e w' ⟨v, hv, rfl, rfl⟩
  have hv' : v < 65 := by omega
  go_wp2_with (refine wpList_farith rfl .quo _ _ _ _ rfl rfl .f32 _ _ rfl rfl (FV.ofInt _ _) (FV.lit (by kernel_rfl) (by kernel_rfl)) ?_; intro rx m1 hrx)
  go_at_call 9
  refine (b10At_any _ _ _ _ _ hn2 (show IS .u8 (w.drewN _) a2 n2 c2 Y from h2) 0 65 (by omega) (by omega) (by omega) (by omega)).mono ?_
  rintro e w' ⟨u, hu, rfl, rfl⟩
  have hu' : u < 65 := by omega
  obtain ⟨xb, yb, sb, A, B, C, L, e1, e2, e3, fX, fY, fA, fB, fC, fL, kA, kB, kC, kLA, g1, g2, g3⟩ := pow_facts v u hv' hu'
  have hx : FV .f32 rx (some xb) := e1 ▸ hrx
  obtain rfl := hx.eq
  have E2 := Lib.hid e2
  have E3 := Lib.hid e3
  clear e1 e2 e3 hrx hx h h2
  go_wp2_with (refine wpList_farith rfl .quo _ _ _ _ rfl rfl .f32 _ _ rfl rfl (FV.ofInt _ _) (FV.lit (by kernel_rfl) (by kernel_rfl)) ?_; intro ry m2 hry; have hy : FV .f32 ry (some yb) := E2.out ▸ hry; obtain rfl := hy.eq; clear hry hy)
  go_at_call 18
  refine (kA _).mono ?_
  rintro e w' ⟨rfl, q1, rfl⟩
  go_wp2_with fail
  go_at_call 18
  refine (kB _).mono ?_
  rintro e w' ⟨rfl, q2, rfl⟩
  go_wp2_with (refine wpList_farith rfl .add _ _ _ _ rfl rfl .f32 _ _ rfl rfl fX fY ?_; intro rs m3 hrs; have hs : FV .f32 rs (some sb) := E3.out ▸ hrs; obtain rfl := hs.eq; clear hrs hs)
  go_at_call 18
  refine (kC _).mono ?_
  rintro e w' ⟨rfl, q3, rfl⟩
  have fA1 := fA.1
  go_wp2_with fail
  go_at_call 19
  refine (kLA _).mono ?_
  rintro e w' ⟨rfl, q4, rfl⟩
  go_wp2_with (first | (refine wpList_widen rfl _ _ _ rfl _ rfl (by kernel_rfl) Try.underlying27 (by assumption) ?_; intro r m hr))
  go_at_call 12
  refine (b10Gap_any _ _ (by assumption) (by assumption) _).mono ?_
  rintro e w' ⟨r1, rfl, hr1, m4, rfl⟩
  have hg1 : (ford .f64 (cn .f64 r1) (some 4562254508917369340) == some .lt) = true := by rw [hr1.1]; exact g1
  clear g1
  go_wp2_with (first | (refine wpList_widen rfl _ _ _ rfl _ rfl (by kernel_rfl) Try.underlying27 (by assumption) ?_; intro r m hr) | (refine wpList_farith rfl .mul _ _ _ _ rfl rfl .f64 _ _ rfl rfl (by assumption) (by assumption) ?_; intro r2 m5 hr2))
  go_at_call 12
  refine (b10Gap_any _ _ (by assumption) (by assumption) _).mono ?_
  rintro e w' ⟨r3, rfl, hr3, m6, rfl⟩
  clear hr2
  go_wp2_with (first | (refine wpList_widen rfl _ _ _ rfl _ rfl (by kernel_rfl) Try.underlying27 (by assumption) ?_; intro r m hr) | (refine wpList_farith rfl .mul _ _ _ _ rfl rfl .f64 _ _ rfl rfl (FV.lit (by kernel_rfl) (by kernel_rfl)) (by assumption) ?_; intro r4 m7 hr4; have hg2 : (ford .f64 (cn .f64 r3) (cn .f64 r4) == some .lt) = true := by rw [hr3.1, hr4.1]; exact g2) | (go_at_call 18; refine (kE _).mono ?_; rintro e w' ⟨rfl, q5, rfl⟩) | (go_at_call 19; refine (kL _).mono ?_; rintro e w' ⟨rfl, q6, rfl⟩))
  go_ret
  exact ⟨rfl, below_drewN (Below.refl _ _) _⟩
end Go.Proofs.Ytnjkabckbnbboaa
