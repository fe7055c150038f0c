/- Helper: wholes with rows and columns exchanged, of the program. Conditions: none. -/
import Derived.Test.YtinekdfpgkmbnabTabGrow
import Derived.Test.YtinekdfpgkmbnabConcat
import Derived.Test.YtinekdfpgkmbnabMarkMore
set_option linter.unusedVariables false
set_option linter.unusedSimpArgs false
namespace Go.Proofs.Ytinekdfpgkmbnab
open Go.RowKit

/-- The numbers with rows and columns exchanged. -/
def flipZ (r c : Nat) (Z : Nat → Int) : Nat → Int := joinZ r (colY c Z)
theorem withB_of {m : Int} {Z : Nat → Int} : ∀ {k : Nat}, (∀ i, i < k → inB (Z i) (-m) m = true) → withB m Z k = true
  | 0, _ => rfl
  | k + 1, h => by
    simp only [withB]
    rw [withB_of (fun i hi => h i (by omega)), h k (by omega)]; rfl
theorem inB_of {x m : Int} (h : -m ≤ x ∧ x ≤ m) : inB x (-m) m = true := by
  unfold inB
  rw [decide_eq_true (by omega), decide_eq_true (by omega)]; rfl
theorem flip_with {r c n : Nat} {Z : Nat → Int} {m : Int} (hr : 0 < r) (hc : 0 < c) (hn : n = r * c) (h : withB m Z n = true) : withB m (flipZ r c Z) (c * r) = true := by
  refine withB_of fun t ht => inB_of ?_
  show -m ≤ Z (t % r * c + t / r) ∧ Z (t % r * c + t / r) ≤ m
  refine withB_at h ?_
  have h1 : t / r < c := Nat.div_lt_of_lt_mul (by rw [Nat.mul_comm]; exact ht)
  have h2 : t % r < r := Nat.mod_lt _ hr
  have h3 : t % r * c + t / r < r * c := by
    have e1 : (t % r + 1) * c ≤ r * c := Nat.mul_le_mul_right c h2
    rw [Nat.add_mul, Nat.one_mul] at e1
    omega
  rw [hn]
  exact h3
set_option maxHeartbeats 1000000 in
theorem implFlipW_no (R C : Int) (a : Option Addr) (n cap : Nat) (Z : Nat → Int) (w : World) (hn : n ≤ 1048576) (hv : wholeB 1000000 R C n Z = false) (h : IS .i64 w a n cap Z) :
    Calls Try.prog 17 #[.agg #[.int .i64 R, .int .i64 C, .slice a n cap]] w (WholeOwn false 0 0 0 (fun _ => 0) w) := by
  have HV := Lib.hid hv
  clear hv
  go_enter Try.func17, Try.ntmps17
  go_wp2_with fail
  go_at_call 43
  refine (implWhole_any R C a n cap Z _ hn (h.below (by repeat first | (with_reducible exact Below.refl _ _) | (with_reducible refine Below.setCell ?_ (by first | exact Nat.le_refl _ | (simp; done) | (simp; omega) | omega) _) | (with_reducible refine Below.alloc ?_ (by first | exact Nat.le_refl _ | (simp; done) | (simp; omega) | omega) _) | (with_reducible refine below_drewN ?_ _) | (with_reducible refine Below.drew ?_)) (Nat.le_refl _))).mono ?_
  rintro e w1 ⟨rfl, b1⟩
  rw [HV.out]
  obtain ⟨hc, hf⟩ := bcell b1
  have hz : w.heap.size + 1 + 1 ≤ w1.heap.size := by have := b1.size; simp at this; omega
  have B1 : Below w.heap.size w w1 := Below.trans (by repeat first | (with_reducible exact Below.refl _ _) | (with_reducible refine Below.setCell ?_ (by first | exact Nat.le_refl _ | (simp; done) | (simp; omega) | omega) _) | (with_reducible refine Below.alloc ?_ (by first | exact Nat.le_refl _ | (simp; done) | (simp; omega) | omega) _) | (with_reducible refine below_drewN ?_ _) | (with_reducible refine Below.drew ?_)) (b1.mono (by simp; omega))
  have z0 : w1.cell? ⟨w.heap.size + 1, 0, none⟩ = some (.int .i64 0) := (hc _ _ (by simp)).trans (by simp [go_sem])
  have z1 : w1.cell? ⟨w.heap.size + 1, 1, none⟩ = some (.int .i64 0) := (hc _ _ (by simp)).trans (by simp [go_sem])
  have z2 : w1.cell? ⟨w.heap.size + 1, 2, none⟩ = some (.slice none 0 0) := (hc _ _ (by simp)).trans (by simp [go_sem])
  have hice : ∀ i, w1.frozen? ⟨w.heap.size + 1, i, none⟩ = false := fun i => (hf _ _ (by simp)).trans (by simp [go_sem])
  clear hc hf b1
  go_wp2_with fail
  refine bodyPost_ret (v := .tuple #[.agg #[.int .i64 0, .int .i64 0, .slice none 0 0], .bool false]) (by simp [results, Try.results17, go_sem, z0, z1, z2]) rfl ?_
  exact ⟨none, 0, fun _ => 0, rfl, .inl ⟨rfl, rfl, rfl⟩, fun i hi => by omega, (by repeat first | (with_reducible exact B1) | (with_reducible refine Below.setCell ?_ (by first | exact Nat.le_refl _ | (simp; done) | (simp; omega) | omega) _) | (with_reducible refine Below.alloc ?_ (by first | exact Nat.le_refl _ | (simp; done) | (simp; omega) | omega) _) | (with_reducible refine below_drewN ?_ _) | (with_reducible refine Below.drew ?_))⟩
set_option maxHeartbeats 2000000 in
theorem implFlipW_yes (r c n b off cap : Nat) (Z : Nat → Int) (w : World) (h1 : 1 ≤ r) (h2 : r ≤ 6) (h3 : 1 ≤ c) (h4 : c ≤ 6) (hn : n = r * c) (hv : wholeB 1000000 r c n Z = true) (hw : withB 1000000 Z n = true)
    (h : IS .i64 w (some ⟨b, off, none⟩) n cap Z) :
    Calls Try.prog 17 #[.agg #[.int .i64 r, .int .i64 c, .slice (some ⟨b, off, none⟩) n cap]] w (WholeOwn true c r (c * r) (flipZ r c Z) w) := by
  have hN := Lib.hid hn
  have hn36 : n ≤ 36 := by have : r * c ≤ 6 * 6 := Nat.mul_le_mul h2 h4; omega
  have HV := Lib.hid hv
  have HW := Lib.hid (flip_with (r := r) (c := c) (by omega) (by omega) hn hw)
  clear hn hv hw
  go_enter Try.func17, Try.ntmps17
  go_wp2_with fail
  go_at_call 43
  refine (implWhole_any r c _ n cap Z _ (by omega) (h.below (by repeat first | (with_reducible exact Below.refl _ _) | (with_reducible refine Below.setCell ?_ (by first | exact Nat.le_refl _ | (simp; done) | (simp; omega) | omega) _) | (with_reducible refine Below.alloc ?_ (by first | exact Nat.le_refl _ | (simp; done) | (simp; omega) | omega) _) | (with_reducible refine below_drewN ?_ _) | (with_reducible refine Below.drew ?_)) (Nat.le_refl _))).mono ?_
  rintro e w1 ⟨rfl, b1⟩
  rw [HV.out]
  obtain ⟨hc, hf⟩ := bcell b1
  have hz : w.heap.size + 1 + 1 ≤ w1.heap.size := by have := b1.size; simp at this; omega
  have B1 : Below w.heap.size w w1 := Below.trans (by repeat first | (with_reducible exact Below.refl _ _) | (with_reducible refine Below.setCell ?_ (by first | exact Nat.le_refl _ | (simp; done) | (simp; omega) | omega) _) | (with_reducible refine Below.alloc ?_ (by first | exact Nat.le_refl _ | (simp; done) | (simp; omega) | omega) _) | (with_reducible refine below_drewN ?_ _) | (with_reducible refine Below.drew ?_)) (b1.mono (by simp; omega))
  have a0 : w1.cell? ⟨w.heap.size, 0, none⟩ = some (.int .i64 r) := (hc _ _ (by simp; try omega)).trans (by simp [go_sem])
  have a1 : w1.cell? ⟨w.heap.size, 1, none⟩ = some (.int .i64 c) := (hc _ _ (by simp; try omega)).trans (by simp [go_sem])
  have a2 : w1.cell? ⟨w.heap.size, 2, none⟩ = some (.slice (some ⟨b, off, none⟩) n cap) := (hc _ _ (by simp; try omega)).trans (by simp [go_sem])
  have z0 : w1.cell? ⟨w.heap.size + 1, 0, none⟩ = some (.int .i64 0) := (hc _ _ (by simp)).trans (by simp [go_sem])
  have z1 : w1.cell? ⟨w.heap.size + 1, 1, none⟩ = some (.int .i64 0) := (hc _ _ (by simp)).trans (by simp [go_sem])
  have z2 : w1.cell? ⟨w.heap.size + 1, 2, none⟩ = some (.slice none 0 0) := (hc _ _ (by simp)).trans (by simp [go_sem])
  have hice : ∀ i, w1.frozen? ⟨w.heap.size + 1, i, none⟩ = false := fun i => (hf _ _ (by simp)).trans (by simp [go_sem])
  have F1 := h.below B1 (Nat.le_refl _)
  clear hc hf b1 h
  go_wp2_with fail
  go_at_call 44
  refine (columnsOf_any r c n b off cap Z _ h1 h2 h3 h4 hN.out F1).mono ?_
  rintro e w2 ⟨a, cp, rfl, hR, b2⟩
  obtain ⟨b', off', ra, rc, rfl, _⟩ := hR.2.2 0 (by omega)
  have HR := Lib.hid hR
  clear hR
  go_wp2_with fail
  go_at_call 34
  refine (wholeOfRows_yes b' off' c cp r (colY c Z) _ h3 h4 h1 h2 HR.out HW.out).mono ?_
  rintro e w3 ⟨g, d, Z2, rfl, o2, hV, b3⟩
  have bb := b2.trans (b3.mono b2.size)
  obtain ⟨hc, hf⟩ := bcell bb
  have y0 := (hc (w.heap.size + 1) 0 (by omega)).trans z0
  have y1 := (hc (w.heap.size + 1) 1 (by omega)).trans z1
  have y2 := (hc (w.heap.size + 1) 2 (by omega)).trans z2
  have hice2 : ∀ i, w3.frozen? ⟨w.heap.size + 1, i, none⟩ = false := fun i => (hf (w.heap.size + 1) i (by omega)).trans (hice i)
  have B2 : Below w.heap.size w w3 := B1.trans (bb.mono (by omega))
  have s1 : w.heap.size + 1 + 1 ≤ w2.heap.size := by have := b2.size; omega
  have s2 : w2.heap.size ≤ w3.heap.size := b3.size
  have HV2 := Lib.hid hV
  clear hc hf bb b2 b3 hV z0 z1 z2 hice a0 a1 a2 F1
  go_wp2_with fail
  refine bodyPost_ret (v := .tuple #[.agg #[.int .i64 c, .int .i64 r, .slice g (c * r) d], .bool true]) (by simp [results, Try.results17, go_sem, y0, y1, y2]) rfl ?_
  exact ⟨_, _, Z2, rfl, (by refine OwnI.to o2 (hk := fun g hg1 hg2 => by (try simp at hg1 hg2); repeat (first | rw [Below.heap_setCell _ _ _ _ (by simp; omega)] | rw [Below.heap_alloc _ _ _ (by simp [World.setCell]; omega)])) ?_ ?_ ?_ ?_ <;> (first | exact Nat.le_refl _ | omega | (simp [World.setCell]; done) | (simp [World.setCell]; omega))), HV2.out, (by repeat first | (with_reducible exact B2) | (with_reducible refine Below.setCell ?_ (by first | exact Nat.le_refl _ | (simp; done) | (simp; omega) | omega) _) | (with_reducible refine Below.alloc ?_ (by first | exact Nat.le_refl _ | (simp; done) | (simp; omega) | omega) _) | (with_reducible refine below_drewN ?_ _) | (with_reducible refine Below.drew ?_))⟩
end Go.Proofs.Ytinekdfpgkmbnab
