/- Helper: the products of all rows with all rows, of program and reference. Conditions: none. -/
import Derived.Test.YtinekdfpgkmbnabRowsOf
import Derived.Test.YtinekdfpgkmbnabProducts
import Derived.Test.YtinekdfpgkmbnabFlipImpl
set_option linter.unusedVariables false
set_option linter.unusedSimpArgs false
namespace Go.Proofs.Ytinekdfpgkmbnab
open Go.RowKit

theorem whole_rc {m : Int} {r c n : Nat} {Y : Nat → Int} (h1 : 1 ≤ r) (h2 : r ≤ 6) (h3 : 1 ≤ c) (h4 : c ≤ 6) (hn : n = r * c) : wholeB m r c n Y = withB m Y n := by
  have e : ((n : Nat) : Int) = (r : Int) * (c : Int) := by rw [hn, Int.natCast_mul]
  unfold wholeB
  rw [side6_yes (by omega) (by omega), side6_yes (by omega) (by omega), decide_eq_true e]
  simp only [Bool.true_and]
theorem dotI_congr {F G F2 G2 : Nat → Int} : ∀ {n : Nat}, (∀ j, j < n → F j = F2 j) → (∀ j, j < n → G j = G2 j) → dotI F G n = dotI F2 G2 n
  | 0, _, _ => rfl
  | n + 1, h1, h2 => by
    show dotI F G n + F n * G n = dotI F2 G2 n + F2 n * G2 n
    rw [dotI_congr (n := n) (fun j hj => h1 j (by omega)) (fun j hj => h2 j (by omega)), h1 n (by omega), h2 n (by omega)]
theorem with_abs {Z : Nat → Int} {n : Nat} (h : withB 1000000 Z n = true) : ∀ t, t < n → (Z t).natAbs ≤ 1000000 := fun t ht => by
  have := withB_at h ht
  omega
/-- The products of all rows with all rows. -/
def gramY (c : Nat) (Z : Nat → Int) (i k : Nat) : Int := dotI (fun j => Z (i * c + j)) (fun j => Z (k * c + j)) c
theorem rows_abs {r c n : Nat} {Z : Nat → Int} (hn : n = r * c) (hZ : ∀ t, t < n → (Z t).natAbs ≤ 1000000) : ∀ i, i < r → ∀ k, k < r → ∀ j, j < c → (Z (i * c + j) * Z (k * c + j)).natAbs ≤ 1000000000000 := fun i hi k hk j hj =>
  prod_abs (hZ _ (by rw [hn]; exact placeI_lt hi hj)) (hZ _ (by rw [hn]; exact placeI_lt hk hj))
set_option maxHeartbeats 1000000 in
theorem giveW_no (R C : Int) (a : Option Addr) (n cap : Nat) (Z : Nat → Int) (w : World) (hn : n ≤ 1048576) (hv : wholeB 1000000 R C n Z = false) (h : IS .i64 w a n cap Z) :
    Calls Try.prog 45 #[.agg #[.int .i64 R, .int .i64 C, .slice a n cap]] w fun e w' => e = .returned (.tuple #[.agg #[.int .i64 0, .int .i64 0, .slice none 0 0], .bool false]) ∧ Below w.heap.size w w' := by
  have HV := Lib.hid hv
  clear hv
  go_enter Try.func45, Try.ntmps45
  go_wp2_with fail
  go_at_call 40
  refine (specWhole_any 1000000 w.heap.size R C a n cap Z _ (by omega) hn ⟨by simp [go_sem], by simp [go_sem], by simp [go_sem]⟩ (h.below (by repeat first | (with_reducible exact Below.refl _ _) | (with_reducible refine Below.setCell ?_ (by first | exact Nat.le_refl _ | (simp; done) | (simp; omega) | omega) _) | (with_reducible refine Below.alloc ?_ (by first | exact Nat.le_refl _ | (simp; done) | (simp; omega) | omega) _) | (with_reducible refine below_drewN ?_ _) | (with_reducible refine Below.drew ?_)) (Nat.le_refl _))).mono ?_
  rintro e w1 ⟨rfl, m1, rfl⟩
  rw [show wholeB ((1000000 : Nat) : Int) R C n Z = false from HV.out]
  go_wp2_with fail
  refine bodyPost_ret (v := .tuple #[.agg #[.int .i64 0, .int .i64 0, .slice none 0 0], .bool false]) (by simp [results, Try.results45, go_sem]) rfl ?_
  exact ⟨rfl, (by repeat first | (with_reducible exact Below.refl _ _) | (with_reducible refine Below.setCell ?_ (by first | exact Nat.le_refl _ | (simp; done) | (simp; omega) | omega) _) | (with_reducible refine Below.alloc ?_ (by first | exact Nat.le_refl _ | (simp; done) | (simp; omega) | omega) _) | (with_reducible refine below_drewN ?_ _) | (with_reducible refine Below.drew ?_))⟩
set_option maxHeartbeats 1000000 in
theorem giveW_yes (R C : Int) (a : Option Addr) (n cap : Nat) (Z : Nat → Int) (w : World) (hn : n ≤ 1048576) (hv : wholeB 1000000 R C n Z = true) (h : IS .i64 w a n cap Z) :
    Calls Try.prog 45 #[.agg #[.int .i64 R, .int .i64 C, .slice a n cap]] w fun e w' => e = .returned (.tuple #[.agg #[.int .i64 R, .int .i64 C, .slice a n cap], .bool true]) ∧ Below w.heap.size w w' := by
  have HV := Lib.hid hv
  clear hv
  go_enter Try.func45, Try.ntmps45
  go_wp2_with fail
  go_at_call 40
  refine (specWhole_any 1000000 w.heap.size R C a n cap Z _ (by omega) hn ⟨by simp [go_sem], by simp [go_sem], by simp [go_sem]⟩ (h.below (by repeat first | (with_reducible exact Below.refl _ _) | (with_reducible refine Below.setCell ?_ (by first | exact Nat.le_refl _ | (simp; done) | (simp; omega) | omega) _) | (with_reducible refine Below.alloc ?_ (by first | exact Nat.le_refl _ | (simp; done) | (simp; omega) | omega) _) | (with_reducible refine below_drewN ?_ _) | (with_reducible refine Below.drew ?_)) (Nat.le_refl _))).mono ?_
  rintro e w1 ⟨rfl, m1, rfl⟩
  rw [show wholeB ((1000000 : Nat) : Int) R C n Z = true from HV.out]
  go_wp2_with fail
  refine bodyPost_ret (v := .tuple #[.agg #[.int .i64 R, .int .i64 C, .slice a n cap], .bool true]) (by simp [results, Try.results45, go_sem]) rfl ?_
  exact ⟨rfl, (by repeat first | (with_reducible exact Below.refl _ _) | (with_reducible refine Below.setCell ?_ (by first | exact Nat.le_refl _ | (simp; done) | (simp; omega) | omega) _) | (with_reducible refine Below.alloc ?_ (by first | exact Nat.le_refl _ | (simp; done) | (simp; omega) | omega) _) | (with_reducible refine below_drewN ?_ _) | (with_reducible refine Below.drew ?_))⟩
theorem heldG {w0 W w' : World} {b B : Nat} {u0 u1 u2 : Value} (hs : W.cell? ⟨b, 0, none⟩ = some u0 ∧ W.cell? ⟨b, 1, none⟩ = some u1 ∧ W.cell? ⟨b, 2, none⟩ = some u2 ∧ Below B w0 W)
    (hb : Below W.heap.size W w') (l : b < w0.heap.size) (lB : B ≤ w0.heap.size) : w'.cell? ⟨b, 0, none⟩ = some u0 ∧ w'.cell? ⟨b, 1, none⟩ = some u1 ∧ w'.cell? ⟨b, 2, none⟩ = some u2 ∧ Below B w0 w' := by
  obtain ⟨h0, h1, h2, h6⟩ := hs
  have e0 := h6.size
  have e1 : b < W.heap.size := Nat.lt_of_lt_of_le l e0
  exact ⟨(hb.cell (p := ⟨b, 0, none⟩) e1).trans h0, (hb.cell (p := ⟨b, 1, none⟩) e1).trans h1, (hb.cell (p := ⟨b, 2, none⟩) e1).trans h2, h6.trans (hb.mono (Nat.le_trans lB e0))⟩
theorem heldSetG {w0 W : World} {b B R : Nat} {u0 u1 u2 v0 v1 v2 : Value} (hs : W.cell? ⟨b, 0, none⟩ = some u0 ∧ W.cell? ⟨b, 1, none⟩ = some u1 ∧ W.cell? ⟨b, 2, none⟩ = some u2 ∧ Below B w0 W) (l : b < B) (hR : B ≤ R) :
    (((W.setCell ⟨R, 0, none⟩ v0).setCell ⟨R, 1, none⟩ v1).setCell ⟨R, 2, none⟩ v2).cell? ⟨b, 0, none⟩ = some u0 ∧ (((W.setCell ⟨R, 0, none⟩ v0).setCell ⟨R, 1, none⟩ v1).setCell ⟨R, 2, none⟩ v2).cell? ⟨b, 1, none⟩ = some u1 ∧
    (((W.setCell ⟨R, 0, none⟩ v0).setCell ⟨R, 1, none⟩ v1).setCell ⟨R, 2, none⟩ v2).cell? ⟨b, 2, none⟩ = some u2 ∧ Below B w0 (((W.setCell ⟨R, 0, none⟩ v0).setCell ⟨R, 1, none⟩ v1).setCell ⟨R, 2, none⟩ v2) := by
  obtain ⟨h0, h1, h2, h6⟩ := hs
  have hne : ∀ o q, (⟨R, o, none⟩ : Addr) ≠ ⟨b, q, none⟩ := fun o q e => by cases e; omega
  refine ⟨?_, ?_, ?_, ((h6.setCell (by exact hR) _).setCell (by exact hR) _).setCell (by exact hR) _⟩
  · rw [World.cell?_setCell_other _ _ _ _ (hne 2 0), World.cell?_setCell_other _ _ _ _ (hne 1 0), World.cell?_setCell_other _ _ _ _ (hne 0 0)]; exact h0
  · rw [World.cell?_setCell_other _ _ _ _ (hne 2 1), World.cell?_setCell_other _ _ _ _ (hne 1 1), World.cell?_setCell_other _ _ _ _ (hne 0 1)]; exact h1
  · rw [World.cell?_setCell_other _ _ _ _ (hne 2 2), World.cell?_setCell_other _ _ _ _ (hne 1 2), World.cell?_setCell_other _ _ _ _ (hne 0 2)]; exact h2
set_option maxHeartbeats 1000000 in
theorem implGram_no (R C : Int) (a : Option Addr) (n cap : Nat) (Z : Nat → Int) (w : World) (hn : n ≤ 1048576) (hv : wholeB 1000000 R C n Z = false) (h : IS .i64 w a n cap Z) :
    Calls Try.prog 21 #[.agg #[.int .i64 R, .int .i64 C, .slice a n cap]] w (WholeOwn false 0 0 0 (fun _ => 0) w) := by
  have HV := Lib.hid hv
  clear hv
  go_enter Try.func21, Try.ntmps21
  go_wp2_with fail
  go_at_call 43
  refine (implWhole_any R C a n cap Z _ hn (h.below (by repeat first | (with_reducible exact Below.refl _ _) | (with_reducible refine Below.setCell ?_ (by first | exact Nat.le_refl _ | (simp; done) | (simp; omega) | omega) _) | (with_reducible refine Below.alloc ?_ (by first | exact Nat.le_refl _ | (simp; done) | (simp; omega) | omega) _) | (with_reducible refine below_drewN ?_ _) | (with_reducible refine Below.drew ?_)) (Nat.le_refl _))).mono ?_
  rintro e w1 ⟨rfl, b1⟩
  rw [HV.out]
  obtain ⟨hc, hf⟩ := bcell b1
  have hz : w.heap.size + 1 + 1 ≤ w1.heap.size := by have := b1.size; simp at this; omega
  have B1 : Below w.heap.size w w1 := Below.trans (by repeat first | (with_reducible exact Below.refl _ _) | (with_reducible refine Below.setCell ?_ (by first | exact Nat.le_refl _ | (simp; done) | (simp; omega) | omega) _) | (with_reducible refine Below.alloc ?_ (by first | exact Nat.le_refl _ | (simp; done) | (simp; omega) | omega) _) | (with_reducible refine below_drewN ?_ _) | (with_reducible refine Below.drew ?_)) (b1.mono (by simp; omega))
  have z0 : w1.cell? ⟨w.heap.size + 1, 0, none⟩ = some (.int .i64 0) := (hc _ _ (by simp)).trans (by simp [go_sem])
  have z1 : w1.cell? ⟨w.heap.size + 1, 1, none⟩ = some (.int .i64 0) := (hc _ _ (by simp)).trans (by simp [go_sem])
  have z2 : w1.cell? ⟨w.heap.size + 1, 2, none⟩ = some (.slice none 0 0) := (hc _ _ (by simp)).trans (by simp [go_sem])
  have hice : ∀ i, w1.frozen? ⟨w.heap.size + 1, i, none⟩ = false := fun i => (hf _ _ (by simp)).trans (by simp [go_sem])
  clear hc hf b1
  go_wp2_with fail
  refine bodyPost_ret (v := .tuple #[.agg #[.int .i64 0, .int .i64 0, .slice none 0 0], .bool false]) (by simp [results, Try.results21, go_sem, z0, z1, z2]) rfl ?_
  exact ⟨none, 0, fun _ => 0, rfl, .inl ⟨rfl, rfl, rfl⟩, fun i hi => by omega, (by repeat first | (with_reducible exact B1) | (with_reducible refine Below.setCell ?_ (by first | exact Nat.le_refl _ | (simp; done) | (simp; omega) | omega) _) | (with_reducible refine Below.alloc ?_ (by first | exact Nat.le_refl _ | (simp; done) | (simp; omega) | omega) _) | (with_reducible refine below_drewN ?_ _) | (with_reducible refine Below.drew ?_))⟩
set_option maxHeartbeats 2000000 in
theorem implGram_run (r c n b off cap : Nat) (Z : Nat → Int) (w : World) (h1 : 1 ≤ r) (h2 : r ≤ 6) (h3 : 1 ≤ c) (h4 : c ≤ 6) (hn : n = r * c) (hv : wholeB 1000000 r c n Z = true) (hZ : ∀ t, t < n → (Z t).natAbs ≤ 1000000)
    (h : IS .i64 w (some ⟨b, off, none⟩) n cap Z)
    (ok : Bool) (R2 C2 : Int) (n2 : Nat) (V2 : Nat → Int) (hT : ∀ W b off c2, RS W (some ⟨b, off, none⟩) r c2 r (gramY c Z) → Calls Try.prog 34 #[.slice (some ⟨b, off, none⟩) r c2] W (WholeOwn ok R2 C2 n2 V2 W)) :
    Calls Try.prog 21 #[.agg #[.int .i64 r, .int .i64 c, .slice (some ⟨b, off, none⟩) n cap]] w (WholeOwn ok R2 C2 n2 V2 w) := by
  have hN := Lib.hid hn
  have hn36 : n ≤ 36 := by have : r * c ≤ 6 * 6 := Nat.mul_le_mul h2 h4; omega
  have HV := Lib.hid hv
  have HZ := Lib.hid hZ
  have HT := Lib.hid hT
  clear hn hv hZ hT
  go_enter Try.func21, Try.ntmps21
  go_wp2_with fail
  go_at_call 43
  refine (implWhole_any r c _ n cap Z _ (by omega) (h.below (by repeat first | (with_reducible exact Below.refl _ _) | (with_reducible refine Below.setCell ?_ (by first | exact Nat.le_refl _ | (simp; done) | (simp; omega) | omega) _) | (with_reducible refine Below.alloc ?_ (by first | exact Nat.le_refl _ | (simp; done) | (simp; omega) | omega) _) | (with_reducible refine below_drewN ?_ _) | (with_reducible refine Below.drew ?_)) (Nat.le_refl _))).mono ?_
  rintro e w1 ⟨rfl, b1⟩
  rw [HV.out]
  obtain ⟨hc, hf⟩ := bcell b1
  have hz : w.heap.size + 1 + 1 ≤ w1.heap.size := by have := b1.size; simp at this; omega
  have B1 : Below w.heap.size w w1 := Below.trans (by repeat first | (with_reducible exact Below.refl _ _) | (with_reducible refine Below.setCell ?_ (by first | exact Nat.le_refl _ | (simp; done) | (simp; omega) | omega) _) | (with_reducible refine Below.alloc ?_ (by first | exact Nat.le_refl _ | (simp; done) | (simp; omega) | omega) _) | (with_reducible refine below_drewN ?_ _) | (with_reducible refine Below.drew ?_)) (b1.mono (by simp; omega))
  have a0 : w1.cell? ⟨w.heap.size, 0, none⟩ = some (.int .i64 r) := (hc _ _ (by simp; try omega)).trans (by simp [go_sem])
  have a1 : w1.cell? ⟨w.heap.size, 1, none⟩ = some (.int .i64 c) := (hc _ _ (by simp; try omega)).trans (by simp [go_sem])
  have a2 : w1.cell? ⟨w.heap.size, 2, none⟩ = some (.slice (some ⟨b, off, none⟩) n cap) := (hc _ _ (by simp; try omega)).trans (by simp [go_sem])
  have z0 : w1.cell? ⟨w.heap.size + 1, 0, none⟩ = some (.int .i64 0) := (hc _ _ (by simp)).trans (by simp [go_sem])
  have z1 : w1.cell? ⟨w.heap.size + 1, 1, none⟩ = some (.int .i64 0) := (hc _ _ (by simp)).trans (by simp [go_sem])
  have z2 : w1.cell? ⟨w.heap.size + 1, 2, none⟩ = some (.slice none 0 0) := (hc _ _ (by simp)).trans (by simp [go_sem])
  have hice : ∀ i, w1.frozen? ⟨w.heap.size + 1, i, none⟩ = false := fun i => (hf _ _ (by simp)).trans (by simp [go_sem])
  have F1 := h.below B1 (Nat.le_refl _)
  have HB1 := Lib.hid B1
  have HXz : Hid (Box w1 (w.heap.size + 1) 0 0 none 0 0) := Lib.hid ⟨z0, z1, z2⟩
  have HIce := Lib.hid hice
  have l1 : w.heap.size < w1.heap.size := by omega
  have hF : ∀ W, Below (w.heap.size + 1) w1 W → IS .i64 W (some ⟨b, off, none⟩) n cap Z := fun W hW => h.below (HB1.out.trans (hW.mono (by omega))) (Nat.le_refl _)
  have l2 : w.heap.size + 1 ≤ w1.heap.size := by omega
  clear hc hf b1 h z0 z1 z2 hice B1 F1
  have hG := Lib.hid (rows_abs hN.out HZ.out)
  have hcell5 : ∀ W, Below w1.heap.size w1 W → W.cell? ⟨w.heap.size + 1, 0, none⟩ = some (.int .i64 0) ∧ W.cell? ⟨w.heap.size + 1, 1, none⟩ = some (.int .i64 0) ∧ W.cell? ⟨w.heap.size + 1, 2, none⟩ = some (.slice none 0 0) ∧ ∀ i, W.frozen? ⟨w.heap.size + 1, i, none⟩ = false := fun W hW => by
    obtain ⟨y0, y1, y2⟩ := HXz.out.below hW (by omega)
    exact ⟨y0, y1, y2, fun i => (hW.frozen (p := ⟨w.heap.size + 1, i, none⟩) (by show w.heap.size + 1 < _; omega)).trans (HIce.out i)⟩
  have HC5 := Lib.hid hcell5
  clear hcell5
  go_wp2_with fail
  go_region_held3 (fun w' => w'.cell? ⟨w.heap.size, 0, none⟩ = some (.int .i64 r) ∧ w'.cell? ⟨w.heap.size, 1, none⟩ = some (.int .i64 c) ∧ w'.cell? ⟨w.heap.size, 2, none⟩ = some (.slice (some ⟨b, off, none⟩) n cap) ∧ Below (w.heap.size + 1) w1 w')
    (first | exact ⟨a0, a1, a2, (by first | exact (Below.refl _ _).drew | exact (below_drewN (Below.refl _ _) _).drew)⟩ | exact heldG (by assumption) (by assumption) l1 l2 | exact heldSetG (by assumption) (Nat.lt_succ_self _) (Nat.le_refl _))
    (first | ((fail_if_success (have hq := qA)); go_at_call 48; refine (rowsOf_any r c n b off cap Z _ h1 h2 h3 h4 hN.out (hF _ (by go_split_ands; assumption))).mono ?_; rintro e w2 ⟨qa, qc, rfl, qA, qB⟩; obtain ⟨qb, qo, _, _, rfl, _⟩ := qA.2.2 0 (by omega)) | (have hq := qA; clear hq; go_at_call 48; refine (rowsOf_any r c n b off cap Z _ h1 h2 h3 h4 hN.out (hF _ (by go_split_ands; assumption))).mono ?_; rintro e w3 ⟨ra, rc, rfl, rA, rB⟩; obtain ⟨rb, ro, _, _, rfl, _⟩ := rA.2.2 0 (by omega)) | (go_at_call 47; refine (productsOf_any _ _ r _ _ _ r _ c _ _ _ h1 h2 h1 h2 h3 h4 (by first | exact qA.below rB | exact rA) (by first | exact rA | exact qA.below rB) hG.out).mono ?_; rintro e w4 ⟨pa, pc, rfl, pA, pB⟩; obtain ⟨pb, po, _, _, rfl, _⟩ := pA.2.2 0 (by omega)) | (go_at_call 34; refine (HT.out _ _ _ _ pA).mono ?_; rintro e w5 ⟨g, d, Z2, rfl, o5, hV5, b5⟩; have bb2 : Below w1.heap.size w1 w2 := Below.trans ((Below.refl _ _).drew) (qB.mono (Nat.le_refl _)); have bb3 := bb2.trans (rB.mono bb2.size); have bb4 := bb3.trans (pB.mono bb3.size); have bb5 := bb4.trans (b5.mono bb4.size); obtain ⟨y0, y1, y2, y3⟩ := HC5.out _ bb5))
  all_goals
    have s4 := bb4.size
    have s5 := b5.size
    have B5 := HB1.out.trans (bb5.mono HB1.out.size)
    have HV5 := Lib.hid hV5
    clear hV5 qA rA pA qB rB pB bb2 bb3 bb4 bb5 b5
    go_wp2_with fail
    refine bodyPost_ret (v := .tuple #[.agg #[.int .i64 R2, .int .i64 C2, .slice g n2 d], .bool ok]) (by simp [results, Try.results21, go_sem, y0, y1, y2]) rfl ?_
    exact ⟨_, _, Z2, rfl, (by refine OwnI.to o5 (hk := fun g hg1 hg2 => by (try simp at hg1 hg2); repeat (first | rw [Below.heap_setCell _ _ _ _ (by simp; omega)] | rw [Below.heap_alloc _ _ _ (by simp [World.setCell]; omega)])) ?_ ?_ ?_ ?_ <;> (first | exact Nat.le_refl _ | omega | (simp [World.setCell]; done) | (simp [World.setCell]; omega))), HV5.out, (by repeat first | (with_reducible exact B5) | (with_reducible refine Below.setCell ?_ (by first | exact Nat.le_refl _ | (simp; done) | (simp; omega) | omega) _) | (with_reducible refine Below.alloc ?_ (by first | exact Nat.le_refl _ | (simp; done) | (simp; omega) | omega) _) | (with_reducible refine below_drewN ?_ _) | (with_reducible refine Below.drew ?_))⟩
end Go.Proofs.Ytinekdfpgkmbnab
