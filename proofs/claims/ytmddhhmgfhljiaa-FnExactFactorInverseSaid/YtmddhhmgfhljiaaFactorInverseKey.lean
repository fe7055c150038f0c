/- Helper: the inverse that a factor tells, of the program and of its reference. Conditions: none. -/
import Derived.Test.YtmddhhmgfhljiaaInvSpec
set_option linter.unusedVariables false
set_option linter.unusedSimpArgs false
namespace Go.Proofs.Ytmddhhmgfhljiaa
open Go.RowKit

theorem eRow_fin {r j : Nat} : ∀ k, finite .f32 (vals (eRow r j) k) = true := by
  intro k
  show finite .f32 (cn .f32 (unitZ r r (j * r + k))) = true
  rw [unitZ_cn]
  unfold unitZ
  split
  · decide +kernel
  · decide +kernel
theorem allFin_allV {V : Nat → Option Nat} : ∀ {n : Nat}, (∀ i, i < n → finite .f32 (V i) = true) → allFin V n = true
  | 0, _ => rfl
  | n + 1, h => by
    have h1 := allFin_allV (V := V) (n := n) fun i hi => h i (by omega)
    simp only [allFin, h1, h n (by omega), Bool.and_self]
theorem eRow_fits {r j : Nat} (h1 : 1 ≤ r) (h12 : r ≤ 12) : fitsB (r : Int) r (vals (eRow r j)) = true := by
  unfold fitsB
  rw [vec_ofF h1 h12, allFin_allV fun i _ => eRow_fin i, decide_eq_true rfl]
  rfl
theorem allJ_all {f : Nat → Bool} : ∀ {n : Nat}, (∀ i, i < n → f i = true) → allJ f n = true
  | 0, _ => rfl
  | n + 1, h => by simp only [allJ, allJ_all (f := f) (n := n) fun i hi => h i (by omega), h n (by omega), Bool.and_self]
theorem inv_all {r N : Nat} {Z : Nat → Nat} {O : Nat → Int} (h1 : 1 ≤ r) (hN : N = r * r) : allJ (fun j => allFin (solV r (sq r Z) O (vals (eRow r j))) r) r = allFin (invV r Z O) N := by
  cases ha : allFin (invV r Z O) N with
  | true =>
    refine allJ_all fun j hj => allFin_allV fun k hk => ?_
    obtain ⟨p1, p2⟩ := place_div (j := k) hj
    have hp := place_lt hk hj
    rw [← hN] at hp
    have := allFin_lt ha hp
    unfold invV at this
    rw [p1, p2] at this
    exact this
  | false =>
    cases hb : allJ (fun j => allFin (solV r (sq r Z) O (vals (eRow r j))) r) r with
    | false => rfl
    | true =>
      have : allFin (invV r Z O) N = true := allFin_allV fun t ht => by
        have hm : t % r < r := Nat.mod_lt _ h1
        have hd : t / r < r := Nat.div_lt_of_lt_mul (by rw [← hN]; exact ht)
        have hq : allFin (solV r (sq r Z) O (vals (eRow r (t % r)))) r = true := allJ_lt (f := fun j => allFin (solV r (sq r Z) O (vals (eRow r j))) r) hb hm
        have hz := allFin_lt hq hd
        exact hz
      rw [this] at ha; cases ha
def invOk (R C : Int) (n m : Nat) (Z : Nat → Nat) (O : Nat → Int) : Bool := factorB R C n (vals Z) m O && allFin (invV R.toNat Z O) n
theorem implInv_no (R C : Int) (a : Option Addr) (n c : Nat) (Z : Nat → Nat) (b : Option Addr) (m d : Nat) (O : Nat → Int) (w : World) (hn : n ≤ 1048576) (hm : m ≤ 1048576) (h : FS .f32 w a n c Z) (h2 : IS .i64 w b m d O) (hf : factorB R C n (vals Z) m O = false) :
    Calls Try.prog 28 #[.agg #[.int .i64 R, .int .i64 C, .slice a n c, .slice b m d]] w (MatOwn false 0 0 0 (fun _ => none) w) := by
  cases hs : sideB R with
  | false => exact implInv_side R C a n c b m d w hs
  | true =>
    obtain ⟨q1, q2⟩ := sideB_le hs
    obtain ⟨r, rfl⟩ : ∃ r : Nat, R = (r : Int) := ⟨R.toNat, by omega⟩
    have hh := implInv_gen r (r * r) C a n c b m d w (by omega) (by omega) rfl (fun _ => false) (fun _ _ => none) (fun j b2 d2 W hj hW hF =>
      implSolve_no (r : Int) C a n c Z b m d O b2 r d2 (eRow r j) W hn hm (by omega) (h.below hW (Nat.le_refl _)) (h2.below hW (Nat.le_refl _)) hF (by rw [hf]; rfl))
    rw [allJ_no (f := fun _ => false) (n := r) (i := 0) (by omega) rfl] at hh
    exact hh
theorem implInv_yes (r n ba oa c bb ob d : Nat) (Z : Nat → Nat) (O : Nat → Int) (w : World) (hf : factorB r r n (vals Z) r O = true) (h : FS .f32 w (some ⟨ba, oa, none⟩) n c Z) (h2 : IS .i64 w (some ⟨bb, ob, none⟩) r d O) :
    Calls Try.prog 28 #[.agg #[.int .i64 (r : Int), .int .i64 (r : Int), .slice (some ⟨ba, oa, none⟩) n c, .slice (some ⟨bb, ob, none⟩) r d]] w (OwnIf (allFin (invV r Z O) n) r r n (invV r Z O) w) := by
  obtain ⟨r', e1, _, _, h1, h12, hN, _⟩ := factor_nat hf
  have e2 : r = r' := by omega
  subst e2
  rw [← inv_all (Z := Z) (O := O) h1 hN]
  refine implInv_gen r n (r : Int) (some ⟨ba, oa, none⟩) n c (some ⟨bb, ob, none⟩) r d w h1 h12 hN (fun j => allFin (solV r (sq r Z) O (vals (eRow r j))) r) (fun j => solV r (sq r Z) O (vals (eRow r j))) (fun j b2 d2 W hj hW hF => ?_)
  obtain ⟨bc, oc, rfl, _, _, _⟩ := hF.at (show 0 < r by omega)
  exact implSolve_yes r n ba oa c bb ob d bc oc d2 Z O (eRow r j) W hf (eRow_fits h1 h12) (h.below hW (Nat.le_refl _)) (h2.below hW (Nat.le_refl _)) hF
theorem specInv_no (R C : Int) (a : Option Addr) (n c : Nat) (Z : Nat → Nat) (b : Option Addr) (m d : Nat) (O : Nat → Int) (w : World) (hn : n ≤ 1048576) (hm : m ≤ 1048576) (h : FS .f32 w a n c Z) (h2 : IS .i64 w b m d O) (hf : factorB R C n (vals Z) m O = false) :
    Calls Try.prog 27 #[.agg #[.int .i64 R, .int .i64 C, .slice a n c, .slice b m d]] w (MatBel false 0 0 0 (fun _ => none) w) := by
  go_enter Try.func27, Try.ntmps27
  go_wp2_with fail
  go_at_call 56
  refine (specFactor_any w.heap.size R C a n c Z b m d O _ hn hm (by simp; omega) (BoxL.four (by simp [go_sem]) (by simp [go_sem]) (by simp [go_sem]) (by simp [go_sem])) (h.below (by repeat first | (with_reducible exact Below.refl _ _) | (with_reducible refine Below.setCell ?_ (by first | exact Nat.le_refl _ | (simp; done) | (simp; omega) | omega) _) | (with_reducible refine Below.alloc ?_ (by first | exact Nat.le_refl _ | (simp; done) | (simp; omega) | omega) _) | (with_reducible refine below_drewN ?_ _) | (with_reducible refine Below.drew ?_)) (Nat.le_refl _)) (h2.below (by repeat first | (with_reducible exact Below.refl _ _) | (with_reducible refine Below.setCell ?_ (by first | exact Nat.le_refl _ | (simp; done) | (simp; omega) | omega) _) | (with_reducible refine Below.alloc ?_ (by first | exact Nat.le_refl _ | (simp; done) | (simp; omega) | omega) _) | (with_reducible refine below_drewN ?_ _) | (with_reducible refine Below.drew ?_)) (Nat.le_refl _))).mono ?_
  rintro e w1 ⟨rfl, b1⟩
  rw [hf]
  have B1 : Below w.heap.size w w1 := Below.trans (by repeat first | (with_reducible exact Below.refl _ _) | (with_reducible refine Below.setCell ?_ (by first | exact Nat.le_refl _ | (simp; done) | (simp; omega) | omega) _) | (with_reducible refine Below.alloc ?_ (by first | exact Nat.le_refl _ | (simp; done) | (simp; omega) | omega) _) | (with_reducible refine below_drewN ?_ _) | (with_reducible refine Below.drew ?_)) (b1.mono (by simp; omega))
  have s1 : w.heap.size + 1 + 1 ≤ w1.heap.size := by have := b1.size; simp at this; omega
  have Z1 : Box w1 (w.heap.size + 1) 0 0 none 0 0 ∧ ∀ i, w1.frozen? ⟨w.heap.size + 1, i, none⟩ = false := by
    obtain ⟨q, f⟩ := bcell b1
    refine ⟨⟨?_, ?_, ?_⟩, fun i => ?_⟩
    all_goals first | rw [q _ _ (by simp <;> omega)] | rw [f _ _ (by simp <;> omega)]
    all_goals simp [go_sem]
  obtain ⟨Z1, I1⟩ := Z1
  obtain ⟨z0, z1, z2⟩ := Z1
  clear b1
  go_wp2_with fail
  refine bodyPost_ret (v := .tuple #[.agg #[.int .i64 0, .int .i64 0, .slice none 0 0], .bool false]) (by simp [results, Try.results27, go_sem, z0, z1, z2]) rfl ?_
  exact ⟨none, 0, fun _ => 0, rfl, ⟨Nat.le_refl _, Nat.zero_le _, fun i hi => absurd hi (Nat.not_lt_zero _)⟩, fun i hi => absurd hi (Nat.not_lt_zero _), (by repeat first | (with_reducible exact B1) | (with_reducible refine Below.setCell ?_ (by first | exact Nat.le_refl _ | (simp; done) | (simp; omega) | omega) _) | (with_reducible refine Below.alloc ?_ (by first | exact Nat.le_refl _ | (simp; done) | (simp; omega) | omega) _) | (with_reducible refine below_drewN ?_ _) | (with_reducible refine Below.drew ?_))⟩
theorem specInv_yes (r n ba oa c bb ob d : Nat) (Z : Nat → Nat) (O : Nat → Int) (w : World) (hf : factorB r r n (vals Z) r O = true) (h : FS .f32 w (some ⟨ba, oa, none⟩) n c Z) (h2 : IS .i64 w (some ⟨bb, ob, none⟩) r d O) :
    Calls Try.prog 27 #[.agg #[.int .i64 (r : Int), .int .i64 (r : Int), .slice (some ⟨ba, oa, none⟩) n c, .slice (some ⟨bb, ob, none⟩) r d]] w (BelIf (allFin (invV r Z O) n) r r n (invV r Z O) w) := by
  obtain ⟨r', e1, _, _, h1, h12, hN, _, _, hord, _⟩ := factor_nat hf
  have e2 : r = r' := by omega
  subst e2
  have hn144 : n ≤ 144 := by have := sides_le h12 h12; omega
  have HN := Lib.hid hN
  clear hN e1
  go_enter Try.func27, Try.ntmps27
  go_wp2_with fail
  go_at_call 56
  refine (specFactor_any w.heap.size (r : Int) (r : Int) (some ⟨ba, oa, none⟩) n c Z (some ⟨bb, ob, none⟩) r d O _ (by omega) (by omega) (by simp; omega) (BoxL.four (by simp [go_sem]) (by simp [go_sem]) (by simp [go_sem]) (by simp [go_sem])) (h.below (by repeat first | (with_reducible exact Below.refl _ _) | (with_reducible refine Below.setCell ?_ (by first | exact Nat.le_refl _ | (simp; done) | (simp; omega) | omega) _) | (with_reducible refine Below.alloc ?_ (by first | exact Nat.le_refl _ | (simp; done) | (simp; omega) | omega) _) | (with_reducible refine below_drewN ?_ _) | (with_reducible refine Below.drew ?_)) (Nat.le_refl _)) (h2.below (by repeat first | (with_reducible exact Below.refl _ _) | (with_reducible refine Below.setCell ?_ (by first | exact Nat.le_refl _ | (simp; done) | (simp; omega) | omega) _) | (with_reducible refine Below.alloc ?_ (by first | exact Nat.le_refl _ | (simp; done) | (simp; omega) | omega) _) | (with_reducible refine below_drewN ?_ _) | (with_reducible refine Below.drew ?_)) (Nat.le_refl _))).mono ?_
  rintro e w1 ⟨rfl, b1⟩
  rw [hf]
  have B1 : Below w.heap.size w w1 := Below.trans (by repeat first | (with_reducible exact Below.refl _ _) | (with_reducible refine Below.setCell ?_ (by first | exact Nat.le_refl _ | (simp; done) | (simp; omega) | omega) _) | (with_reducible refine Below.alloc ?_ (by first | exact Nat.le_refl _ | (simp; done) | (simp; omega) | omega) _) | (with_reducible refine below_drewN ?_ _) | (with_reducible refine Below.drew ?_)) (b1.mono (by simp; omega))
  have s1 : w.heap.size + 1 + 1 ≤ w1.heap.size := by have := b1.size; simp at this; omega
  have X1 : BoxL w1 w.heap.size [.int .i64 (r : Int), .int .i64 (r : Int), .slice (some ⟨ba, oa, none⟩) n c, .slice (some ⟨bb, ob, none⟩) r d] := BoxL.below (BoxL.four (by simp [go_sem]) (by simp [go_sem]) (by simp [go_sem]) (by simp [go_sem])) b1 (by simp; omega)
  have Z1 : Box w1 (w.heap.size + 1) 0 0 none 0 0 ∧ ∀ i, w1.frozen? ⟨w.heap.size + 1, i, none⟩ = false := by
    obtain ⟨q, f⟩ := bcell b1
    refine ⟨⟨?_, ?_, ?_⟩, fun i => ?_⟩
    all_goals first | rw [q _ _ (by simp <;> omega)] | rw [f _ _ (by simp <;> omega)]
    all_goals simp [go_sem]
  obtain ⟨Z1, I1⟩ := Z1
  clear b1 hf
  go_wp2_with fail
  go_at_call 65
  refine (l03Inverse_any w.heap.size r n ba oa c bb ob d Z O _ h1 h12 HN.out hord (by omega) X1 (h.below B1 (Nat.le_refl _)) (h2.below B1 (Nat.le_refl _))).mono ?_
  rintro e w2 ⟨g, cap, Y, rfl, fY, hlo, hY, b2⟩
  have B2 := B1.trans (b2.mono B1.size)
  have Z2 := Z1.below b2 (by omega)
  have I2 : ∀ i, w2.frozen? ⟨w.heap.size + 1, i, none⟩ = false := fun i => (b2.frozen (p := ⟨w.heap.size + 1, i, none⟩) (by show w.heap.size + 1 < w1.heap.size; omega)).trans (I1 i)
  have s2 := b2.size
  have HLO := Lib.hid hlo
  have hvB : validB r r n (vals Y) = allFin (invV r Z O) n := (validB_nat h1 h12 h1 h12 HN.out).trans (allFin_congr hY)
  have HY := Lib.hid hY
  clear b2 Z1 I1 X1 hlo hY B1
  cases ha : allFin (invV r Z O) n with
  | true =>
    rw [ha] at hvB
    go_wp2_with fail
    go_at_call 64
    refine (specGive_yes _ _ _ _ _ Y _ (by omega) fY hvB).mono ?_
    rintro e w3 ⟨rfl, b3⟩
    have B3 := B2.trans (b3.mono B2.size)
    have Z3 := Z2.below b3 (by omega)
    have I3 : ∀ i, w3.frozen? ⟨w.heap.size + 1, i, none⟩ = false := fun i => (b3.frozen (p := ⟨w.heap.size + 1, i, none⟩) (by show w.heap.size + 1 < w2.heap.size; omega)).trans (I2 i)
    have F3 := fY.below b3 (Nat.le_refl _)
    obtain ⟨z0, z1, z2⟩ := Z3
    clear b3 Z2 I2 fY
    go_wp2_with fail
    refine bodyPost_ret (v := .tuple #[.agg #[.int .i64 r, .int .i64 r, .slice g n cap], .bool true]) (by simp [results, Try.results27, go_sem, z0, z1, z2]) rfl ?_
    exact BelIf.yes ha ⟨_, _, Y, rfl, FS.to F3 (by simp [World.setCell]) (fun q hq => by obtain ⟨o, ho⟩ := hq; have hl := HLO.out q o ho; have hf : q ≠ w.heap.size + 1 := (by omega); rw [Below.heap_setCell _ _ _ _ hf, Below.heap_setCell _ _ _ _ hf, Below.heap_setCell _ _ _ _ hf]), HY.out, (by repeat first | (with_reducible exact B3) | (with_reducible refine Below.setCell ?_ (by first | exact Nat.le_refl _ | (simp; done) | (simp; omega) | omega) _) | (with_reducible refine Below.alloc ?_ (by first | exact Nat.le_refl _ | (simp; done) | (simp; omega) | omega) _) | (with_reducible refine below_drewN ?_ _) | (with_reducible refine Below.drew ?_))⟩
  | false =>
    rw [ha] at hvB
    go_wp2_with fail
    go_at_call 64
    refine (specGive_no _ _ _ _ _ Y _ (by omega) fY hvB).mono ?_
    rintro e w3 ⟨rfl, b3⟩
    have B3 := B2.trans (b3.mono B2.size)
    have Z3 := Z2.below b3 (by omega)
    have I3 : ∀ i, w3.frozen? ⟨w.heap.size + 1, i, none⟩ = false := fun i => (b3.frozen (p := ⟨w.heap.size + 1, i, none⟩) (by show w.heap.size + 1 < w2.heap.size; omega)).trans (I2 i)
    obtain ⟨z0, z1, z2⟩ := Z3
    clear b3 Z2 I2 fY
    go_wp2_with fail
    refine bodyPost_ret (v := .tuple #[.agg #[.int .i64 0, .int .i64 0, .slice none 0 0], .bool false]) (by simp [results, Try.results27, go_sem, z0, z1, z2]) rfl ?_
    exact BelIf.no ha ⟨none, 0, fun _ => 0, rfl, ⟨Nat.le_refl _, Nat.zero_le _, fun i hi => absurd hi (Nat.not_lt_zero _)⟩, fun i hi => absurd hi (Nat.not_lt_zero _), (by repeat first | (with_reducible exact B3) | (with_reducible refine Below.setCell ?_ (by first | exact Nat.le_refl _ | (simp; done) | (simp; omega) | omega) _) | (with_reducible refine Below.alloc ?_ (by first | exact Nat.le_refl _ | (simp; done) | (simp; omega) | omega) _) | (with_reducible refine below_drewN ?_ _) | (with_reducible refine Below.drew ?_))⟩
theorem keyFactorInverse (R C : Int) (n : Nat) (Z : Nat → Nat) (m : Nat) (O : Nat → Int) (wR : (Lit.int .i64 R).wf = true) (wC : (Lit.int .i64 C).wf = true) (hn : n ≤ 1048576) (hm : m ≤ 1048576) : ∃ (ok : Bool) (R2 C2 : Int) (n2 : Nat) (V : Nat → Option Nat), n2 ≤ 144 ∧
    (∀ a c b d W, FS .f32 W a n c Z → IS .i64 W b m d O → Calls Try.prog 27 #[.agg #[.int .i64 R, .int .i64 C, .slice a n c, .slice b m d]] W (MatBel ok R2 C2 n2 V W)) ∧
    (∀ a c b d W, FS .f32 W a n c Z → IS .i64 W b m d O → Calls Try.prog 28 #[.agg #[.int .i64 R, .int .i64 C, .slice a n c, .slice b m d]] W (MatOwn ok R2 C2 n2 V W)) := by
  cases hf : factorB R C n (vals Z) m O with
  | false => exact ⟨false, 0, 0, 0, fun _ => none, by omega, fun a c b d W h h2 => specInv_no R C a n c Z b m d O W hn hm h h2 hf, fun a c b d W h h2 => implInv_no R C a n c Z b m d O W hn hm h h2 hf⟩
  | true =>
    obtain ⟨r, rfl, rfl, rfl, h1, h12, hN, _⟩ := factor_nat hf
    have hpos : 0 < n := by rw [hN]; exact Nat.mul_pos h1 h1
    have hs : ∀ a c b d W, FS .f32 W a n c Z → IS .i64 W b m d O → Calls Try.prog 27 #[.agg #[.int .i64 (m : Int), .int .i64 (m : Int), .slice a n c, .slice b m d]] W (BelIf (allFin (invV m Z O) n) m m n (invV m Z O) W) := by
      intro a c b d W h h2
      obtain ⟨ba, oa, rfl, _, _, _⟩ := h.at hpos
      obtain ⟨bb, ob, rfl, _, _, _⟩ := h2.at (show 0 < m by omega)
      exact specInv_yes m n ba oa c bb ob d Z O W hf h h2
    have hi : ∀ a c b d W, FS .f32 W a n c Z → IS .i64 W b m d O → Calls Try.prog 28 #[.agg #[.int .i64 (m : Int), .int .i64 (m : Int), .slice a n c, .slice b m d]] W (OwnIf (allFin (invV m Z O) n) m m n (invV m Z O) W) := by
      intro a c b d W h h2
      obtain ⟨ba, oa, rfl, _, _, _⟩ := h.at hpos
      obtain ⟨bb, ob, rfl, _, _, _⟩ := h2.at (show 0 < m by omega)
      exact implInv_yes m n ba oa c bb ob d Z O W hf h h2
    cases ha : allFin (invV m Z O) n with
    | false =>
      rw [ha] at hs hi
      exact ⟨false, 0, 0, 0, fun _ => none, by omega, hs, hi⟩
    | true =>
      rw [ha] at hs hi
      exact ⟨true, m, m, n, invV m Z O, by have := sides_le h12 h12; omega, hs, hi⟩
end Go.Proofs.Ytmddhhmgfhljiaa
