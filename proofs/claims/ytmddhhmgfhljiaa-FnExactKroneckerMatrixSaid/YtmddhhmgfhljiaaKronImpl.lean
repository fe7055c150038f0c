/- Helper: the product of each number of a matrix with another matrix, of the program. Conditions: none. -/
import Derived.Test.YtmddhhmgfhljiaaFlipWalks
import Derived.Test.YtmddhhmgfhljiaaKindSteps
import Derived.Test.YtmddhhmgfhljiaaTri
import Derived.Test.YtmddhhmgfhljiaaGive
set_option linter.unusedVariables false
set_option linter.unusedSimpArgs false
namespace Go.Proofs.Ytmddhhmgfhljiaa
open Go.RowKit

def kronB (R C : Int) (n : Nat) (V : Nat → Option Nat) (R2 C2 : Int) (n2 : Nat) (V2 : Nat → Option Nat) : Bool := validB R C n V && (validB R2 C2 n2 V2 && (sideB (R * R2) && sideB (C * C2)))
/-- One number. -/
def kronV (c r2 c2 CC : Nat) (Z Y : Nat → Nat) (t : Nat) : Option Nat := fop .mul .f32 (cn .f32 (Z (t / CC / r2 * c + t % CC / c2))) (cn .f32 (Y (t / CC % r2 * c2 + t % CC % c2)))
theorem kronV_at {c r2 c2 CC j q : Nat} {Z Y : Nat → Nat} (hq : q < CC) : kronV c r2 c2 CC Z Y (j * CC + q) = fop .mul .f32 (cn .f32 (Z (j / r2 * c + q / c2))) (cn .f32 (Y (j % r2 * c2 + q % c2))) := by
  obtain ⟨h1, h2⟩ := place_div (j := j) hq
  unfold kronV
  rw [h1, h2]
theorem tmod_n {j s : Nat} : Int.tmod (j : Int) (s : Int) = ((j % s : Nat) : Int) := by rw [Int.natCast_emod]; exact Int.tmod_eq_emod_of_nonneg (by omega)
theorem tdiv_n {j s : Nat} : Int.tdiv (j : Int) (s : Int) = ((j / s : Nat) : Int) := by rw [Int.natCast_ediv]; exact Int.tdiv_eq_ediv_of_nonneg (by omega)
theorem threeBoxes {w w1 : World} {R C R2 C2 : Int} {a b : Option Addr} {n c n2 d : Nat} {T1 T2 T3 : TypeId}
    (b1 : Below (((w.alloc (.cells #[.int .i64 R, .int .i64 C, .slice a n c] T1)).alloc (.cells #[.int .i64 R2, .int .i64 C2, .slice b n2 d] T2)).alloc (.cells #[.int .i64 0, .int .i64 0, .slice none 0 0] T3)).heap.size (((w.alloc (.cells #[.int .i64 R, .int .i64 C, .slice a n c] T1)).alloc (.cells #[.int .i64 R2, .int .i64 C2, .slice b n2 d] T2)).alloc (.cells #[.int .i64 0, .int .i64 0, .slice none 0 0] T3)) w1) :
    Box w1 w.heap.size R C a n c ∧ Box w1 (w.heap.size + 1) R2 C2 b n2 d ∧ Box w1 (w.heap.size + 1 + 1) 0 0 none 0 0 ∧ (∀ i, w1.frozen? ⟨w.heap.size + 1 + 1, i, none⟩ = false) ∧ w.heap.size + 1 + 1 + 1 ≤ w1.heap.size ∧ Below w.heap.size w w1 := by
  obtain ⟨q, f⟩ := bcell b1
  have hs := b1.size
  simp at hs
  refine ⟨⟨?_, ?_, ?_⟩, ⟨?_, ?_, ?_⟩, ⟨?_, ?_, ?_⟩, fun i => ?_, by omega, Below.trans (by repeat first | (with_reducible exact Below.refl _ _) | (with_reducible refine Below.setCell ?_ (by first | exact Nat.le_refl _ | (simp; done) | (simp; omega) | omega) _) | (with_reducible refine Below.alloc ?_ (by first | exact Nat.le_refl _ | (simp; done) | (simp; omega) | omega) _) | (with_reducible refine below_drewN ?_ _) | (with_reducible refine Below.drew ?_)) (b1.mono (by simp; omega))⟩
  all_goals first | rw [q _ _ (by simp <;> omega)] | rw [f _ _ (by simp <;> omega)]
  all_goals simp [go_sem]
theorem implKron_bad (R C : Int) (a : Option Addr) (n c : Nat) (Z : Nat → Nat) (R2 C2 : Int) (b : Option Addr) (n2 d : Nat) (Y : Nat → Nat) (w : World) (hn : n ≤ 1048576) (hm : n2 ≤ 1048576) (h : FS .f32 w a n c Z) (h2 : FS .f32 w b n2 d Y)
    (hno : (validB R C n (vals Z) && validB R2 C2 n2 (vals Y)) = false) :
    Calls Try.prog 34 #[.agg #[.int .i64 R, .int .i64 C, .slice a n c], .agg #[.int .i64 R2, .int .i64 C2, .slice b n2 d]] w (MatOwn false 0 0 0 (fun _ => none) w) := by
  cases hv : validB R C n (vals Z) with
  | false =>
    go_enter Try.func34, Try.ntmps34
    go_wp2_with fail
    go_at_call 61
    refine (implValid_any R C a n c Z _ hn (h.below (by repeat first | (with_reducible exact Below.refl _ _) | (with_reducible refine Below.setCell ?_ (by first | exact Nat.le_refl _ | (simp; done) | (simp; omega) | omega) _) | (with_reducible refine Below.alloc ?_ (by first | exact Nat.le_refl _ | (simp; done) | (simp; omega) | omega) _) | (with_reducible refine below_drewN ?_ _) | (with_reducible refine Below.drew ?_)) (Nat.le_refl _))).mono ?_
    rintro e w1 ⟨rfl, b1⟩
    rw [hv]
    obtain ⟨XA, XB, ⟨z0, z1, z2⟩, IR, s1, B1⟩ := threeBoxes b1
    clear b1 XA XB
    go_wp2_with fail
    refine bodyPost_ret (v := .tuple #[.agg #[.int .i64 0, .int .i64 0, .slice none 0 0], .bool false]) (by simp [results, Try.results34, go_sem, z0, z1, z2]) rfl ?_
    exact ⟨none, 0, fun _ => 0, rfl, .inl ⟨rfl, rfl, rfl⟩, fun i hi => by omega, (by repeat first | (with_reducible exact B1) | (with_reducible refine Below.setCell ?_ (by first | exact Nat.le_refl _ | (simp; done) | (simp; omega) | omega) _) | (with_reducible refine Below.alloc ?_ (by first | exact Nat.le_refl _ | (simp; done) | (simp; omega) | omega) _) | (with_reducible refine below_drewN ?_ _) | (with_reducible refine Below.drew ?_))⟩
  | true =>
    have hv2 : validB R2 C2 n2 (vals Y) = false := by rw [hv] at hno; simpa using hno
    go_enter Try.func34, Try.ntmps34
    go_wp2_with fail
    go_at_call 61
    refine (implValid_any R C a n c Z _ hn (h.below (by repeat first | (with_reducible exact Below.refl _ _) | (with_reducible refine Below.setCell ?_ (by first | exact Nat.le_refl _ | (simp; done) | (simp; omega) | omega) _) | (with_reducible refine Below.alloc ?_ (by first | exact Nat.le_refl _ | (simp; done) | (simp; omega) | omega) _) | (with_reducible refine below_drewN ?_ _) | (with_reducible refine Below.drew ?_)) (Nat.le_refl _))).mono ?_
    rintro e w1 ⟨rfl, b1⟩
    rw [hv]
    obtain ⟨XA, XB, XR, IR, s1, B1⟩ := threeBoxes b1
    obtain ⟨c0, c1, c2⟩ := XB
    clear b1 XA hv hno
    go_wp2_with fail
    go_at_call 61
    refine (implValid_any R2 C2 b n2 d Y _ hm (h2.below B1 (Nat.le_refl _))).mono ?_
    rintro e w2 ⟨rfl, b2⟩
    rw [hv2]
    have B2 := B1.trans (b2.mono B1.size)
    obtain ⟨z0, z1, z2⟩ := XR.below b2 (by omega)
    have I2 : ∀ i, w2.frozen? ⟨w.heap.size + 1 + 1, i, none⟩ = false := fun i => (b2.frozen (p := ⟨w.heap.size + 1 + 1, i, none⟩) (by show w.heap.size + 1 + 1 < w1.heap.size; omega)).trans (IR i)
    clear b2 XR IR c0 c1 c2 hv2
    go_wp2_with fail
    refine bodyPost_ret (v := .tuple #[.agg #[.int .i64 0, .int .i64 0, .slice none 0 0], .bool false]) (by simp [results, Try.results34, go_sem, z0, z1, z2]) rfl ?_
    exact ⟨none, 0, fun _ => 0, rfl, .inl ⟨rfl, rfl, rfl⟩, fun i hi => by omega, (by repeat first | (with_reducible exact B2) | (with_reducible refine Below.setCell ?_ (by first | exact Nat.le_refl _ | (simp; done) | (simp; omega) | omega) _) | (with_reducible refine Below.alloc ?_ (by first | exact Nat.le_refl _ | (simp; done) | (simp; omega) | omega) _) | (with_reducible refine below_drewN ?_ _) | (with_reducible refine Below.drew ?_))⟩
set_option maxRecDepth 20000 in
set_option maxHeartbeats 1000000 in
theorem implKron_no (r c r2 c2 RR CC N1 N2 : Nat) (a b : Option Addr) (d1 d2 : Nat) (Z Y : Nat → Nat) (w : World) (hr : r ≤ 12) (hc : c ≤ 12) (hr2 : r2 ≤ 12) (hc2 : c2 ≤ 12) (hRR : RR = r * r2) (hCC : CC = c * c2) (hn : N1 ≤ 1048576) (hm : N2 ≤ 1048576)
    (hv : validB r c N1 (vals Z) = true) (hv2 : validB r2 c2 N2 (vals Y) = true) (hno : (sideB (RR : Int) && sideB (CC : Int)) = false) (h : FS .f32 w a N1 d1 Z) (h2 : FS .f32 w b N2 d2 Y) :
    Calls Try.prog 34 #[.agg #[.int .i64 r, .int .i64 c, .slice a N1 d1], .agg #[.int .i64 r2, .int .i64 c2, .slice b N2 d2]] w (MatOwn false 0 0 0 (fun _ => none) w) := by
  have b1' := sides_le hr hr2
  have b2' := sides_le hc hc2
  have he1 : (r : Int) * (r2 : Int) = (RR : Int) := by rw [hRR, Int.natCast_mul]
  have he2 : (c : Int) * (c2 : Int) = (CC : Int) := by rw [hCC, Int.natCast_mul]
  have hw1 : IntKind.i64.wrap (RR : Int) = (RR : Int) := IntWalk.i64_in _ (by omega)
  have hw2 : IntKind.i64.wrap (CC : Int) = (CC : Int) := IntWalk.i64_in _ (by omega)
  clear b1' b2' hRR hCC
  go_enter Try.func34, Try.ntmps34
  go_wp2_with fail
  go_at_call 61
  refine (implValid_any r c a N1 d1 Z _ hn (h.below (by repeat first | (with_reducible exact Below.refl _ _) | (with_reducible refine Below.setCell ?_ (by first | exact Nat.le_refl _ | (simp; done) | (simp; omega) | omega) _) | (with_reducible refine Below.alloc ?_ (by first | exact Nat.le_refl _ | (simp; done) | (simp; omega) | omega) _) | (with_reducible refine below_drewN ?_ _) | (with_reducible refine Below.drew ?_)) (Nat.le_refl _))).mono ?_
  rintro e w1 ⟨rfl, b1⟩
  rw [hv]
  obtain ⟨XA, XB, XR, IR, s1, B1⟩ := threeBoxes b1
  have XB' := XB
  obtain ⟨c0, c1, c2'⟩ := XB'
  clear b1
  go_wp2_with fail
  go_at_call 61
  refine (implValid_any r2 c2 b N2 d2 Y _ hm (h2.below B1 (Nat.le_refl _))).mono ?_
  rintro e w2 ⟨rfl, b2⟩
  rw [hv2]
  have B2 := B1.trans (b2.mono B1.size)
  obtain ⟨a0, a1, a2⟩ := XA.below b2 (by omega)
  obtain ⟨v0, v1, v2⟩ := XB.below b2 (by omega)
  obtain ⟨z0, z1, z2⟩ := XR.below b2 (by omega)
  have I2 : ∀ i, w2.frozen? ⟨w.heap.size + 1 + 1, i, none⟩ = false := fun i => (b2.frozen (p := ⟨w.heap.size + 1 + 1, i, none⟩) (by show w.heap.size + 1 + 1 < w1.heap.size; omega)).trans (IR i)
  clear b2 XR XA XB IR c0 c1 c2' hv hv2
  go_wp2
  go_quiet (fail)
  go_wp2_with fail
  go_at_call 77
  refine (isSide_any _ _).mono ?_
  rintro e w' ⟨rfl, rfl⟩
  cases hs : sideB (RR : Int) with
  | false =>
    clear a0 a1 a2 v0 v1 v2
    go_wp2_with fail
    refine bodyPost_ret (v := .tuple #[.agg #[.int .i64 0, .int .i64 0, .slice none 0 0], .bool false]) (by simp [results, Try.results34, go_sem, z0, z1, z2]) rfl ?_
    exact ⟨none, 0, fun _ => 0, rfl, .inl ⟨rfl, rfl, rfl⟩, fun i hi => by omega, (by repeat first | (with_reducible exact B2) | (with_reducible refine Below.setCell ?_ (by first | exact Nat.le_refl _ | (simp; done) | (simp; omega) | omega) _) | (with_reducible refine Below.alloc ?_ (by first | exact Nat.le_refl _ | (simp; done) | (simp; omega) | omega) _) | (with_reducible refine below_drewN ?_ _) | (with_reducible refine Below.drew ?_))⟩
  | true =>
    have hs2 : sideB (CC : Int) = false := by rw [hs] at hno; simpa using hno
    clear a0 a1 a2 v0 v1 v2
    go_wp2_with fail
    go_at_call 77
    refine (isSide_any _ _).mono ?_
    rintro e w' ⟨rfl, rfl⟩
    rw [hs2]
    go_wp2_with fail
    refine bodyPost_ret (v := .tuple #[.agg #[.int .i64 0, .int .i64 0, .slice none 0 0], .bool false]) (by simp [results, Try.results34, go_sem, z0, z1, z2]) rfl ?_
    exact ⟨none, 0, fun _ => 0, rfl, .inl ⟨rfl, rfl, rfl⟩, fun i hi => by omega, (by repeat first | (with_reducible exact B2) | (with_reducible refine Below.setCell ?_ (by first | exact Nat.le_refl _ | (simp; done) | (simp; omega) | omega) _) | (with_reducible refine Below.alloc ?_ (by first | exact Nat.le_refl _ | (simp; done) | (simp; omega) | omega) _) | (with_reducible refine below_drewN ?_ _) | (with_reducible refine Below.drew ?_))⟩
set_option maxRecDepth 20000 in
set_option maxHeartbeats 4000000 in
theorem implKron_yes (r c r2 c2 RR CC N1 N2 N p1 o1 d1 p2 o2 d2 : Nat) (Z Y : Nat → Nat) (w : World) (hr1 : 1 ≤ r) (hr : r ≤ 12) (hc1 : 1 ≤ c) (hc : c ≤ 12) (hr21 : 1 ≤ r2) (hr2 : r2 ≤ 12) (hc21 : 1 ≤ c2) (hc2 : c2 ≤ 12) (hRR : RR = r * r2) (hCC : CC = c * c2)
    (hRR1 : 1 ≤ RR) (hRR12 : RR ≤ 12) (hCC1 : 1 ≤ CC) (hCC12 : CC ≤ 12) (hN1 : N1 = r * c) (hN2 : N2 = r2 * c2) (hN : N = RR * CC)
    (hv : validB r c N1 (vals Z) = true) (hv2 : validB r2 c2 N2 (vals Y) = true) (hfa : allFin (vals Z) N1 = true) (hfb : allFin (vals Y) N2 = true) (h : FS .f32 w (some ⟨p1, o1, none⟩) N1 d1 Z) (h2 : FS .f32 w (some ⟨p2, o2, none⟩) N2 d2 Y) :
    Calls Try.prog 34 #[.agg #[.int .i64 r, .int .i64 c, .slice (some ⟨p1, o1, none⟩) N1 d1], .agg #[.int .i64 r2, .int .i64 c2, .slice (some ⟨p2, o2, none⟩) N2 d2]] w (OwnIf (allFin (kronV c r2 c2 CC Z Y) N) RR CC N (kronV c r2 c2 CC Z Y) w) := by
  have HN1 := Lib.hid hN1
  have HN2 := Lib.hid hN2
  have HN := Lib.hid hN
  have HRR := Lib.hid hRR
  have HCC := Lib.hid hCC
  have HFA := Lib.hid hfa
  have HFB := Lib.hid hfb
  have h1144 : N1 ≤ 144 := by have := sides_le hr hc; omega
  have h2144 : N2 ≤ 144 := by have := sides_le hr2 hc2; omega
  have h144 : N ≤ 144 := by have := sides_le hRR12 hCC12; omega
  have hpos : 0 < N := by rw [hN]; exact Nat.mul_pos hRR1 hCC1
  have hcap1 := h.1
  have hmax1 : d1 ≤ 9223372036854775807 := by have := h.2.1; unfold maxLen at this; omega
  have hcap2 := h2.1
  have hmax2 : d2 ≤ 9223372036854775807 := by have := h2.2.1; unfold maxLen at this; omega
  obtain ⟨_, _, e, hb1, _, _⟩ := h.at (show 0 < N1 by rw [hN1]; exact Nat.mul_pos hr1 hc1)
  simp only [Option.some.injEq, Addr.mk.injEq, and_true] at e
  obtain ⟨rfl, rfl⟩ := e
  obtain ⟨_, _, e, hb2, _, _⟩ := h2.at (show 0 < N2 by rw [hN2]; exact Nat.mul_pos hr21 hc21)
  simp only [Option.some.injEq, Addr.mk.injEq, and_true] at e
  obtain ⟨rfl, rfl⟩ := e
  have he1 : (r : Int) * (r2 : Int) = (RR : Int) := by rw [hRR, Int.natCast_mul]
  have he2 : (c : Int) * (c2 : Int) = (CC : Int) := by rw [hCC, Int.natCast_mul]
  have hw1 : IntKind.i64.wrap (RR : Int) = (RR : Int) := IntWalk.i64_in _ (by omega)
  have hw2 : IntKind.i64.wrap (CC : Int) = (CC : Int) := IntWalk.i64_in _ (by omega)
  have hs1 : sideB (RR : Int) = true := sideB_yes (by omega) (by omega)
  have hs2 : sideB (CC : Int) = true := sideB_yes (by omega) (by omega)
  obtain ⟨VV, hVV⟩ : ∃ VV, VV = kronV c r2 c2 CC Z Y := ⟨_, rfl⟩
  rw [← hVV]
  have HVV := Lib.hid hVV
  clear hN1 hN2 hN hVV hRR hCC hfa hfb
  go_enter Try.func34, Try.ntmps34
  go_wp2_with fail
  go_at_call 61
  refine (implValid_any r c _ N1 d1 Z _ (by omega) (h.below (by repeat first | (with_reducible exact Below.refl _ _) | (with_reducible refine Below.setCell ?_ (by first | exact Nat.le_refl _ | (simp; done) | (simp; omega) | omega) _) | (with_reducible refine Below.alloc ?_ (by first | exact Nat.le_refl _ | (simp; done) | (simp; omega) | omega) _) | (with_reducible refine below_drewN ?_ _) | (with_reducible refine Below.drew ?_)) (Nat.le_refl _))).mono ?_
  rintro e w1 ⟨rfl, b1⟩
  rw [hv]
  obtain ⟨XA, XB, XR, IR, s1, B1⟩ := threeBoxes b1
  have XB' := XB
  obtain ⟨c0, c1, c2'⟩ := XB'
  clear b1
  go_wp2_with fail
  go_at_call 61
  refine (implValid_any r2 c2 _ N2 d2 Y _ (by omega) (h2.below B1 (Nat.le_refl _))).mono ?_
  rintro e w2 ⟨rfl, b2⟩
  rw [hv2]
  have B2 := B1.trans (b2.mono B1.size)
  have XA2 := XA.below b2 (by omega)
  have XB2 := XB.below b2 (by omega)
  have XR2 := XR.below b2 (by omega)
  have s2 := b2.size
  have I2 : ∀ i, w2.frozen? ⟨w.heap.size + 1 + 1, i, none⟩ = false := fun i => (b2.frozen (p := ⟨w.heap.size + 1 + 1, i, none⟩) (by show w.heap.size + 1 + 1 < w1.heap.size; omega)).trans (IR i)
  have XA2' := XA2
  obtain ⟨a0, a1, a2⟩ := XA2'
  have XB2' := XB2
  obtain ⟨v0, v1, v2⟩ := XB2'
  clear b2 XR XA XB IR c0 c1 c2' hv hv2 B1
  go_wp2
  go_quiet (fail)
  go_wp2_with fail
  go_at_call 77
  refine (isSide_any _ _).mono ?_
  rintro e w' ⟨rfl, rfl⟩
  rw [hs1]
  go_wp2_with fail
  go_at_call 77
  refine (isSide_any _ _).mono ?_
  rintro e w' ⟨rfl, rfl⟩
  rw [hs2]
  clear he1 he2 hw1 hw2 a0 a1 a2 v0 v1 v2 hs1 hs2
  go_wp2_with fail
  go_at_call 67
  refine (newMatrix_any RR CC N _ hRR12 hCC12 HN.out).mono ?_
  rintro e w3 ⟨g, rfl, oP, b3⟩
  have b23 : Below w2.heap.size w2 w3 := Below.trans (by repeat first | (with_reducible exact Below.refl _ _) | (with_reducible refine Below.setCell ?_ (by first | exact Nat.le_refl _ | (simp; done) | (simp; omega) | omega) _) | (with_reducible refine Below.alloc ?_ (by first | exact Nat.le_refl _ | (simp; done) | (simp; omega) | omega) _) | (with_reducible refine below_drewN ?_ _) | (with_reducible refine Below.drew ?_)) (b3.mono (by simp [World.drewN]))
  have s3 := b23.size
  obtain ⟨_, _, gB', gU, gS, _⟩ := oP.cell hpos
  have gB : w2.heap.size ≤ g := by simpa [World.drewN] using gB'
  have oP3 : Own 44 .f32 w2.heap.size w3.heap.size w3 (some ⟨g, 0, none⟩) N N (fun _ => 0) := by simpa [World.drewN] using oP
  have XA3 := XA2.below b23 (by omega)
  have XB3 := XB2.below b23 (by omega)
  have XR3 := XR2.below b23 (by omega)
  have I3 : ∀ i, w3.frozen? ⟨w.heap.size + 1 + 1, i, none⟩ = false := fun i => (b23.frozen (p := ⟨w.heap.size + 1 + 1, i, none⟩) (by show w.heap.size + 1 + 1 < w2.heap.size; omega)).trans (I2 i)
  have B3 := B2.trans (b23.mono B2.size)
  clear b3 b23 XA2 XB2 XR2 I2 oP gB' B2
  have b4 : Below w3.heap.size w3 (w3.alloc (.cells #[.int .i64 RR, .int .i64 CC, .slice (some ⟨g, 0, none⟩) N N] 31)) := (by repeat first | (with_reducible exact Below.refl _ _) | (with_reducible refine Below.setCell ?_ (by first | exact Nat.le_refl _ | (simp; done) | (simp; omega) | omega) _) | (with_reducible refine Below.alloc ?_ (by first | exact Nat.le_refl _ | (simp; done) | (simp; omega) | omega) _) | (with_reducible refine below_drewN ?_ _) | (with_reducible refine Below.drew ?_))
  have XP := Box.new w3 31 RR CC (some ⟨g, 0, none⟩) N N
  have s4 : w3.heap.size < (w3.alloc (.cells #[.int .i64 RR, .int .i64 CC, .slice (some ⟨g, 0, none⟩) N N] 31)).heap.size := by simp
  go_wp2
  generalize w3.alloc (.cells #[.int .i64 RR, .int .i64 CC, .slice (some ⟨g, 0, none⟩) N N] 31) = w4 at b4 XP s4 ⊢
  have XA4 := XA3.below b4 (by omega)
  have XB4 := XB3.below b4 (by omega)
  have XR4 := XR3.below b4 (by omega)
  have I4 : ∀ i, w4.frozen? ⟨w.heap.size + 1 + 1, i, none⟩ = false := fun i => (b4.frozen (p := ⟨w.heap.size + 1 + 1, i, none⟩) (by show w.heap.size + 1 + 1 < w3.heap.size; omega)).trans (I3 i)
  have oP4 := oP3.kept (below_grew b4) (fun q hq => by cases hq)
  have B4 := B3.trans (b4.mono B3.size)
  have fA4 := h.below B4 (Nat.le_refl _)
  have fB4 := h2.below B4 (Nat.le_refl _)
  clear b4 XA3 XB3 XR3 I3 oP3 B3 h h2
  go_loopw [46] (fun i wr => ∃ (j : Nat) (X : Nat → Nat), j ≤ RR ∧ i = .int .i64 j ∧ (∀ t, t < j * CC → FV .f32 (X t) (VV t)) ∧ Own 44 .f32 w2.heap.size w3.heap.size wr (some ⟨g, 0, none⟩) N N X ∧ w4.grownBy wr (some g)) (fun i _ => RR - (intOf i).toNat)
  case atStart => exact ⟨0, _, Nat.zero_le _, rfl, fun t ht => absurd ht (by rw [Nat.zero_mul]; exact Nat.not_lt_zero _), oP4, World.grownBy.refl _ _⟩
  case round =>
    obtain ⟨j, X, hj, rfl, hv, ho, hg⟩ := hrel
    have HV2 := Lib.hid hv
    clear oP4 hv
    have hsr := hg.size
    by_cases hlt : j < RR
    · have XPr := XP.grown hg (by omega) (fun q hq => by cases hq; omega)
      have XAr := XA4.grown hg (by omega) (fun q hq => by cases hq; omega)
      have XBr := XB4.grown hg (by omega) (fun q hq => by cases hq; omega)
      have hO := Lib.hid ho
      have hG := Lib.hid hg
      clear ho hg
      have hjk : j * CC + CC ≤ N := by rw [HN.out]; have := Nat.mul_le_mul_right CC hlt; rw [Nat.succ_mul] at this; exact this
      have hQr : j / r2 < r := Nat.div_lt_of_lt_mul (by rw [Nat.mul_comm, ← HRR.out]; exact hlt)
      have hMr : j % r2 < r2 := Nat.mod_lt _ hr21
      obtain ⟨Q, hQ⟩ : ∃ Q, Q = j / r2 := ⟨_, rfl⟩
      obtain ⟨M, hM⟩ : ∃ M, M = j % r2 := ⟨_, rfl⟩
      have hr0 : ¬ (r2 = 0) := by omega
      have ht1 : Int.tmod (j : Int) (r2 : Int) = (M : Int) := by rw [hM]; exact tmod_n
      have ht2 : Int.tdiv (j : Int) (r2 : Int) = (Q : Int) := by rw [hQ]; exact tdiv_n
      have ht3 : IntKind.i64.wrap (Q : Int) = (Q : Int) := IntWalk.i64_in _ (by rw [hQ]; omega)
      rw [← hQ] at hQr
      rw [← hM] at hMr
      have HQ := Lib.hid hQ
      have HM := Lib.hid hM
      clear hQ hM
      go_wp2
      generalize hw0 : wr = w0 at XAr XPr XBr hsr ⊢
      have rowA := fun W => rowOf_any p1 o1 r c N1 d1 Q W hr hc1 hc HN1.out hcap1 hmax1 hQr
      have rowB := fun W => rowOf_any p2 o2 r2 c2 N2 d2 M W hr2 hc21 hc2 HN2.out hcap2 hmax2 hMr
      (refine wp_region_kinds (fun w' => Below w0.heap.size w0 w') (fun _ => 0) 12 (below_drewN (Below.refl _ _) 1) (by kernel_rfl) (by kernel_rfl) (by kernel_rfl) ?_; simp only [List.take_succ_cons, List.take_zero, List.drop_succ_cons, List.drop_zero])
      ((with_reducible refine wpKinds_run (.agg #[.int .i64 r, .int .i64 c, .slice (some ⟨p1, o1, none⟩) N1 d1]) ?hwant ?hkind ?hrun ?_); (case hwant => first | (simp [Region.wanted, yielded]; done) | rfl); (case hkind => rfl); (case hrun => intro W hW; obtain ⟨u0, u1, u2⟩ := Box.below XAr hW (by omega); simp [go_sem, BigFrame.eval_const, BigFrame.eval_global, BigFrame.eval_func, u0, u1, u2]); simp only [Act.put, List.setIfInBounds_toArray, List.set_cons_succ, List.set_cons_zero])
      ((with_reducible refine wpKinds_plain ?hwant ?hkind ?hplain (fun K hK => ?_)); (case hwant => first | (simp [Region.wanted, yielded]; done) | rfl); (case hkind => rfl); (case hplain => rfl); go_big_quiet_op; (first | refine hK _ ?_ | refine ⟨_, fun _ _ => rfl, hK _ ?_⟩); clear hK K)
      ((with_reducible refine wpKinds_plain ?hwant ?hkind ?hplain (fun K hK => ?_)); (case hwant => first | (simp [Region.wanted, yielded]; done) | rfl); (case hkind => rfl); (case hplain => rfl); go_big_quiet_op; (first | refine hK _ ?_ | refine ⟨_, fun _ _ => rfl, hK _ ?_⟩); clear hK K)
      ((with_reducible refine wpKinds_run (.int .i64 r2) ?hwant ?hkind ?hrun ?_); (case hwant => first | (simp [Region.wanted, yielded]; done) | rfl); (case hkind => rfl); (case hrun => intro W hW; obtain ⟨u0, u1, u2⟩ := Box.below XBr hW (by omega); simp [go_sem, BigFrame.eval_const, BigFrame.eval_global, BigFrame.eval_func, u0, u1, u2]); simp only [Act.put, List.setIfInBounds_toArray, List.set_cons_succ, List.set_cons_zero])
      ((with_reducible refine wpKinds_run (.int .i64 Q) ?hwant ?hkind ?hrun ?_); (case hwant => first | (simp [Region.wanted, yielded]; done) | rfl); (case hkind => rfl); (case hrun => intro W hW; simp [go_sem, BigFrame.eval_const, BigFrame.eval_global, BigFrame.eval_func, hr0, ht2, ht3]); simp only [Act.put, List.setIfInBounds_toArray, List.set_cons_succ, List.set_cons_zero])
      ((with_reducible refine wpKinds_call (f := 68) (args := #[.agg #[.int .i64 r, .int .i64 c, .slice (some ⟨p1, o1, none⟩) N1 d1], .int .i64 Q]) (.slice (some ⟨p1, o1 + Q * c, none⟩) c c) ?hwant ?hkind ?hrun ?hinit ?hcall ?_); (case hwant => first | (simp [Region.wanted, yielded]; done) | rfl); (case hkind => rfl); (case hrun => intro W; simp [go_sem, BigFrame.eval_const, BigFrame.eval_global, BigFrame.eval_func]); (case hinit => kernel_rfl); (case hcall => intro W hW; (refine (rowA W).mono ?_; rintro e w' ⟨rfl, hb⟩; exact ⟨rfl, hW.trans (hb.mono hW.size)⟩)); simp only [Act.put, List.setIfInBounds_toArray, List.set_cons_succ, List.set_cons_zero])
      ((with_reducible refine wpKinds_run (.agg #[.int .i64 r2, .int .i64 c2, .slice (some ⟨p2, o2, none⟩) N2 d2]) ?hwant ?hkind ?hrun ?_); (case hwant => first | (simp [Region.wanted, yielded]; done) | rfl); (case hkind => rfl); (case hrun => intro W hW; obtain ⟨u0, u1, u2⟩ := Box.below XBr hW (by omega); simp [go_sem, BigFrame.eval_const, BigFrame.eval_global, BigFrame.eval_func, u0, u1, u2]); simp only [Act.put, List.setIfInBounds_toArray, List.set_cons_succ, List.set_cons_zero])
      ((with_reducible refine wpKinds_plain ?hwant ?hkind ?hplain (fun K hK => ?_)); (case hwant => first | (simp [Region.wanted, yielded]; done) | rfl); (case hkind => rfl); (case hplain => rfl); go_big_quiet_op; (first | refine hK _ ?_ | refine ⟨_, fun _ _ => rfl, hK _ ?_⟩); clear hK K)
      ((with_reducible refine wpKinds_plain ?hwant ?hkind ?hplain (fun K hK => ?_)); (case hwant => first | (simp [Region.wanted, yielded]; done) | rfl); (case hkind => rfl); (case hplain => rfl); go_big_quiet_op; (first | refine hK _ ?_ | refine ⟨_, fun _ _ => rfl, hK _ ?_⟩); clear hK K)
      ((with_reducible refine wpKinds_run (.int .i64 r2) ?hwant ?hkind ?hrun ?_); (case hwant => first | (simp [Region.wanted, yielded]; done) | rfl); (case hkind => rfl); (case hrun => intro W hW; obtain ⟨u0, u1, u2⟩ := Box.below XBr hW (by omega); simp [go_sem, BigFrame.eval_const, BigFrame.eval_global, BigFrame.eval_func, u0, u1, u2]); simp only [Act.put, List.setIfInBounds_toArray, List.set_cons_succ, List.set_cons_zero])
      ((with_reducible refine wpKinds_run (.int .i64 M) ?hwant ?hkind ?hrun ?_); (case hwant => first | (simp [Region.wanted, yielded]; done) | rfl); (case hkind => rfl); (case hrun => intro W hW; simp [go_sem, BigFrame.eval_const, BigFrame.eval_global, BigFrame.eval_func, hr0, ht1]); simp only [Act.put, List.setIfInBounds_toArray, List.set_cons_succ, List.set_cons_zero])
      ((with_reducible refine wpKinds_call (f := 68) (args := #[.agg #[.int .i64 r2, .int .i64 c2, .slice (some ⟨p2, o2, none⟩) N2 d2], .int .i64 M]) (.slice (some ⟨p2, o2 + M * c2, none⟩) c2 c2) ?hwant ?hkind ?hrun ?hinit ?hcall ?_); (case hwant => first | (simp [Region.wanted, yielded]; done) | rfl); (case hkind => rfl); (case hrun => intro W; simp [go_sem, BigFrame.eval_const, BigFrame.eval_global, BigFrame.eval_func]); (case hinit => kernel_rfl); (case hcall => intro W hW; (refine (rowB W).mono ?_; rintro e w' ⟨rfl, hb⟩; exact ⟨rfl, hW.trans (hb.mono hW.size)⟩)); simp only [Act.put, List.setIfInBounds_toArray, List.set_cons_succ, List.set_cons_zero])
      refine wpKinds_nil ?_
      intro w6 hC
      subst hw0
      have hG6 : w4.grownBy w6 (some g) := grownBy_trans hG.out ⟨hC.os, hC.tape, hC.output, hC.size, fun q hq _ => hC.block q hq⟩
      have hO6 := hO.out.kept (below_grew hC) (fun q hq => by cases hq)
      have XP6 := XPr.below hC (by omega)
      have hsz := hC.size
      obtain ⟨u0, u1, u2⟩ := XP6
      clear hG hO XAr XPr XBr rowA rowB hC ht1 ht2 ht3 hr0
      go_wp2_with fail
      go_at_call 68
      refine (rowOf_any g 0 RR CC N N j _ hRR12 hCC1 hCC12 HN.out (Nat.le_refl _) (by omega) hlt).mono ?_
      rintro e w7 ⟨rfl, b7⟩
      have hG7 : w4.grownBy w7 (some g) := grownBy_trans hG6 ⟨b7.os, b7.tape, b7.output, b7.size, fun q hq _ => b7.block q hq⟩
      have hO7 := hO6.kept (below_grew b7) (fun q hq => by cases hq)
      clear b7 u0 u1 u2 hG6 hO6
      simp only [Nat.zero_add]
      go_wp2
      go_loopw [65] (fun i wr2 => ∃ (q : Nat) (X' : Nat → Nat), q ≤ CC ∧ i = .int .i64 q ∧ (∀ t, t < j * CC + q → FV .f32 (X' t) (VV t)) ∧ Own 44 .f32 w2.heap.size w3.heap.size wr2 (some ⟨g, 0, none⟩) N N X' ∧ w4.grownBy wr2 (some g)) (fun i _ => CC - (intOf i).toNat)
      case atStart => exact ⟨0, X, Nat.zero_le _, rfl, HV2.out, hO7, hG7⟩
      case round =>
        obtain ⟨q, X', hq, rfl, hv, ho, hg⟩ := hrel
        have HV3 := Lib.hid hv
        clear hO7 hG7 hv
        have hsr2 := hg.size
        by_cases hlt2 : q < CC
        · have XBq := XB4.grown hg (by omega) (fun q hq => by cases hq; omega)
          have fAq := (fA4.grown hg (fun q hq => by cases hq; omega)).row HN1.out hQr c (Nat.le_refl _) (by unfold maxLen; omega)
          have fBq := (fB4.grown hg (fun q hq => by cases hq; omega)).row HN2.out hMr c2 (Nat.le_refl _) (by unfold maxLen; omega)
          have hQ2r : q / c2 < c := Nat.div_lt_of_lt_mul (by rw [Nat.mul_comm, ← HCC.out]; exact hlt2)
          have hM2r : q % c2 < c2 := Nat.mod_lt _ hc21
          obtain ⟨Q2, hQ2⟩ : ∃ Q, Q = q / c2 := ⟨_, rfl⟩
          obtain ⟨M2, hM2⟩ : ∃ M, M = q % c2 := ⟨_, rfl⟩
          have hr0 : ¬ (c2 = 0) := by omega
          have ht1 : Int.tmod (q : Int) (c2 : Int) = (M2 : Int) := by rw [hM2]; exact tmod_n
          have ht2 : Int.tdiv (q : Int) (c2 : Int) = (Q2 : Int) := by rw [hQ2]; exact tdiv_n
          have ht3 : IntKind.i64.wrap (Q2 : Int) = (Q2 : Int) := IntWalk.i64_in _ (by rw [hQ2]; omega)
          rw [← hQ2] at hQ2r
          rw [← hM2] at hM2r
          obtain ⟨b', off', e, hla, hca, _⟩ := fAq.at hQ2r
          simp only [Option.some.injEq, Addr.mk.injEq, and_true] at e
          obtain ⟨rfl, rfl⟩ := e
          obtain ⟨b', off', e, hlb, hcb, _⟩ := fBq.at hM2r
          simp only [Option.some.injEq, Addr.mk.injEq, and_true] at e
          obtain ⟨rfl, rfl⟩ := e
          obtain ⟨rm, hrm, frm⟩ := mul_fin (x := Z (Q * c + Q2)) (y := Y (M * c2 + M2)) (allFin_lt (V := vals Z) HFA.out (by rw [HN1.out]; exact place_lt hQr hQ2r)) (allFin_lt (V := vals Y) HFB.out (by rw [HN2.out]; exact place_lt hMr hM2r))
          have HP : Hid (FV .f32 rm (VV (j * CC + q))) := Lib.hid (FV.of_eq frm (by rw [HVV.out, kronV_at hlt2, ← HQ.out, ← HM.out, ← hQ2, ← hM2]))
          have hmr : ∀ W : World, (binOp .mul 44 (.float .f32 (Z (Q * c + Q2))) (.float .f32 (Y (M * c2 + M2)))).run Try.prog W = .ok (.float .f32 rm) W := fun W => run_float_arith W .mul _ .f32 _ _ _ hrm
          clear frm hrm hQ2 hM2 fAq fBq
          generalize Z (Q * c + Q2) = za at hca hmr
          generalize Y (M * c2 + M2) = yb at hcb hmr
          have hO := Lib.hid ho
          have hG := Lib.hid hg
          clear ho hg
          go_wp2
          generalize hw0 : wr = w0 at XBq hla hlb hca hcb hsr2 ⊢
          (refine wp_region_kinds (fun w' => Below w0.heap.size w0 w') (fun _ => 0) 18 (below_drewN (Below.refl _ _) 1) (by kernel_rfl) (by kernel_rfl) (by kernel_rfl) ?_; simp only [List.take_succ_cons, List.take_zero, List.drop_succ_cons, List.drop_zero])
          ((with_reducible refine wpKinds_plain ?hwant ?hkind ?hplain (fun K hK => ?_)); (case hwant => first | (simp [Region.wanted, yielded]; done) | rfl); (case hkind => rfl); (case hplain => rfl); go_big_quiet_op; (first | refine hK _ ?_ | refine ⟨_, fun _ _ => rfl, hK _ ?_⟩); clear hK K)
          ((with_reducible refine wpKinds_plain ?hwant ?hkind ?hplain (fun K hK => ?_)); (case hwant => first | (simp [Region.wanted, yielded]; done) | rfl); (case hkind => rfl); (case hplain => rfl); go_big_quiet_op; (first | refine hK _ ?_ | refine ⟨_, fun _ _ => rfl, hK _ ?_⟩); clear hK K)
          ((with_reducible refine wpKinds_plain ?hwant ?hkind ?hplain (fun K hK => ?_)); (case hwant => first | (simp [Region.wanted, yielded]; done) | rfl); (case hkind => rfl); (case hplain => rfl); go_big_quiet_op; (first | refine hK _ ?_ | refine ⟨_, fun _ _ => rfl, hK _ ?_⟩); clear hK K)
          ((with_reducible refine wpKinds_plain ?hwant ?hkind ?hplain (fun K hK => ?_)); (case hwant => first | (simp [Region.wanted, yielded]; done) | rfl); (case hkind => rfl); (case hplain => rfl); go_big_quiet_op; (first | refine hK _ ?_ | refine ⟨_, fun _ _ => rfl, hK _ ?_⟩); clear hK K)
          ((with_reducible refine wpKinds_plain ?hwant ?hkind ?hplain (fun K hK => ?_)); (case hwant => first | (simp [Region.wanted, yielded]; done) | rfl); (case hkind => rfl); (case hplain => rfl); go_big_quiet_op; (first | refine hK _ ?_ | refine ⟨_, fun _ _ => rfl, hK _ ?_⟩); clear hK K)
          ((with_reducible refine wpKinds_run (.int .i64 c2) ?hwant ?hkind ?hrun ?_); (case hwant => first | (simp [Region.wanted, yielded]; done) | rfl); (case hkind => rfl); (case hrun => intro W hW; obtain ⟨u0, u1, u2⟩ := Box.below XBq hW (by omega); simp [go_sem, BigFrame.eval_const, BigFrame.eval_global, BigFrame.eval_func, u0, u1, u2]); simp only [Act.put, List.setIfInBounds_toArray, List.set_cons_succ, List.set_cons_zero])
          ((with_reducible refine wpKinds_run (.int .i64 Q2) ?hwant ?hkind ?hrun ?_); (case hwant => first | (simp [Region.wanted, yielded]; done) | rfl); (case hkind => rfl); (case hrun => intro W hW; simp [go_sem, BigFrame.eval_const, BigFrame.eval_global, BigFrame.eval_func, hr0, ht2, ht3]); simp only [Act.put, List.setIfInBounds_toArray, List.set_cons_succ, List.set_cons_zero])
          ((with_reducible refine wpKinds_run (.pointer (some ⟨p1, o1 + Q * c + Q2, none⟩)) ?hwant ?hkind ?hrun ?_); (case hwant => first | (simp [Region.wanted, yielded]; done) | rfl); (case hkind => rfl); (case hrun => intro W hW; simp [go_sem, BigFrame.eval_const, BigFrame.eval_global, BigFrame.eval_func, hQ2r]); simp only [Act.put, List.setIfInBounds_toArray, List.set_cons_succ, List.set_cons_zero])
          ((with_reducible refine wpKinds_run (.float .f32 za) ?hwant ?hkind ?hrun ?_); (case hwant => first | (simp [Region.wanted, yielded]; done) | rfl); (case hkind => rfl); (case hrun => intro W hW; have hcell := (hW.cell (p := _) (by assumption)).trans hca; simp [go_sem, BigFrame.eval_const, BigFrame.eval_global, BigFrame.eval_func, hcell]); simp only [Act.put, List.setIfInBounds_toArray, List.set_cons_succ, List.set_cons_zero])
          ((with_reducible refine wpKinds_plain ?hwant ?hkind ?hplain (fun K hK => ?_)); (case hwant => first | (simp [Region.wanted, yielded]; done) | rfl); (case hkind => rfl); (case hplain => rfl); go_big_quiet_op; (first | refine hK _ ?_ | refine ⟨_, fun _ _ => rfl, hK _ ?_⟩); clear hK K)
          ((with_reducible refine wpKinds_plain ?hwant ?hkind ?hplain (fun K hK => ?_)); (case hwant => first | (simp [Region.wanted, yielded]; done) | rfl); (case hkind => rfl); (case hplain => rfl); go_big_quiet_op; (first | refine hK _ ?_ | refine ⟨_, fun _ _ => rfl, hK _ ?_⟩); clear hK K)
          ((with_reducible refine wpKinds_plain ?hwant ?hkind ?hplain (fun K hK => ?_)); (case hwant => first | (simp [Region.wanted, yielded]; done) | rfl); (case hkind => rfl); (case hplain => rfl); go_big_quiet_op; (first | refine hK _ ?_ | refine ⟨_, fun _ _ => rfl, hK _ ?_⟩); clear hK K)
          ((with_reducible refine wpKinds_run (.int .i64 c2) ?hwant ?hkind ?hrun ?_); (case hwant => first | (simp [Region.wanted, yielded]; done) | rfl); (case hkind => rfl); (case hrun => intro W hW; obtain ⟨u0, u1, u2⟩ := Box.below XBq hW (by omega); simp [go_sem, BigFrame.eval_const, BigFrame.eval_global, BigFrame.eval_func, u0, u1, u2]); simp only [Act.put, List.setIfInBounds_toArray, List.set_cons_succ, List.set_cons_zero])
          ((with_reducible refine wpKinds_run (.int .i64 M2) ?hwant ?hkind ?hrun ?_); (case hwant => first | (simp [Region.wanted, yielded]; done) | rfl); (case hkind => rfl); (case hrun => intro W hW; simp [go_sem, BigFrame.eval_const, BigFrame.eval_global, BigFrame.eval_func, hr0, ht1]); simp only [Act.put, List.setIfInBounds_toArray, List.set_cons_succ, List.set_cons_zero])
          ((with_reducible refine wpKinds_run (.pointer (some ⟨p2, o2 + M * c2 + M2, none⟩)) ?hwant ?hkind ?hrun ?_); (case hwant => first | (simp [Region.wanted, yielded]; done) | rfl); (case hkind => rfl); (case hrun => intro W hW; simp [go_sem, BigFrame.eval_const, BigFrame.eval_global, BigFrame.eval_func, hM2r]); simp only [Act.put, List.setIfInBounds_toArray, List.set_cons_succ, List.set_cons_zero])
          ((with_reducible refine wpKinds_run (.float .f32 yb) ?hwant ?hkind ?hrun ?_); (case hwant => first | (simp [Region.wanted, yielded]; done) | rfl); (case hkind => rfl); (case hrun => intro W hW; have hcell := (hW.cell (p := _) (by assumption)).trans hcb; simp [go_sem, BigFrame.eval_const, BigFrame.eval_global, BigFrame.eval_func, hcell]); simp only [Act.put, List.setIfInBounds_toArray, List.set_cons_succ, List.set_cons_zero])
          ((with_reducible refine wpKinds_run (.float .f32 rm) ?hwant ?hkind ?hrun ?_); (case hwant => first | (simp [Region.wanted, yielded]; done) | rfl); (case hkind => rfl); (case hrun => intro W hW; simp [go_sem, BigFrame.eval_const, BigFrame.eval_global, BigFrame.eval_func, eqGuard, hmr]); simp only [Act.put, List.setIfInBounds_toArray, List.set_cons_succ, List.set_cons_zero])
          ((with_reducible refine wpKinds_run (.pointer (some ⟨g, j * CC + q, none⟩)) ?hwant ?hkind ?hrun ?_); (case hwant => first | (simp [Region.wanted, yielded]; done) | rfl); (case hkind => rfl); (case hrun => intro W hW; simp [go_sem, BigFrame.eval_const, BigFrame.eval_global, BigFrame.eval_func, hlt2]); simp only [Act.put, List.setIfInBounds_toArray, List.set_cons_succ, List.set_cons_zero])
          refine wpKinds_nil ?_
          intro w6 hC
          subst hw0
          have hG6 : w4.grownBy w6 (some g) := grownBy_trans hG.out ⟨hC.os, hC.tape, hC.output, hC.size, fun q hq _ => hC.block q hq⟩
          have hO6 := hO.out.kept (below_grew hC) (fun q hq => by cases hq)
          have hpl : j * CC + q < N := by omega
          obtain ⟨hce, hfr, _⟩ := hO6.cell hpl
          have hst := Lib.hid (hO6.stored (t := j * CC + q) (v := rm) hpl HP.out.2)
          have hG8 := Lib.hid (grownBy_trans hG6 hst.out.2)
          have hvn : Hid (∀ t, t < j * CC + (q + 1) → FV .f32 (if t = j * CC + q then rm else X' t) (VV t)) := by
            refine Lib.hid fun t ht => ?_
            by_cases e : t = j * CC + q
            · subst e; rw [if_pos rfl]; exact HP.out
            · rw [if_neg e]; exact HV3.out t (by omega)
          generalize X' (j * CC + q) = old at hce
          clear hG hO hC hG6 hO6 XBq hla hlb hca hcb ht1 ht2 ht3 hr0 hmr
          go_wp2_with fail
          go_roundw
          case rel => exact ⟨q + 1, _, by omega, by go_num, hvn.out, hst.out.1, hG8.out⟩
          case measure => simp [intOf]; omega
        · obtain rfl : q = CC := by omega
          have hO := Lib.hid ho
          have hG := Lib.hid hg
          clear ho hg
          go_wp2
          go_roundw
          case rel => exact ⟨j + 1, X', by omega, by go_num, fun t ht => HV3.out t (by rw [Nat.succ_mul] at ht; exact ht), hO.out, hG.out⟩
          case measure => simp [intOf]; omega
    · obtain rfl : j = RR := by omega
      have XPe := XP.grown hg (by omega) (fun q hq => by cases hq; omega)
      have XRe := XR4.grown hg (by omega) (fun q hq => by cases hq; omega)
      have IRe : ∀ i, wr.frozen? ⟨w.heap.size + 1 + 1, i, none⟩ = false := fun i => (World.frozen?_of_block (a := ⟨w.heap.size + 1 + 1, i, none⟩) (hg.block (w.heap.size + 1 + 1) (by show w.heap.size + 1 + 1 < w4.heap.size; omega) (fun e => by cases e; omega))).trans (I4 i)
      have Be := B4.grown hg B4.size (fun q hq => by cases hq; omega)
      have fP := ho.fs
      have hVe : ∀ t, t < N → vals X t = VV t := fun t ht => (HV2.out t (by rw [← HN.out]; exact ht)).1
      have hval : validB j CC N (vals X) = allFin VV N := (validB_nat hRR1 hRR12 hCC1 hCC12 HN.out).trans (allFin_congr hVe)
      have XPe' := XPe
      obtain ⟨u0, u1, u2⟩ := XPe'
      have XRe' := XRe
      obtain ⟨z0, z1, z2⟩ := XRe'
      have HVe := Lib.hid hVe
      have HO := Lib.hid ho
      clear ho hg hVe XA4 XB4 fA4 fB4 XP XR4 I4 HV2
      cases hf : allFin VV N with
      | true =>
        rw [hf] at hval
        go_wp2_with fail
        go_at_call 78
        refine (implGive_yes j CC _ N N X _ (by omega) fP hval).mono ?_
        rintro e w7 ⟨rfl, b7⟩
        have Z7 := XRe.below b7 (by omega)
        obtain ⟨y0, y1, y2⟩ := Z7
        have I7 : ∀ i, w7.frozen? ⟨w.heap.size + 1 + 1, i, none⟩ = false := fun i => (b7.frozen (p := ⟨w.heap.size + 1 + 1, i, none⟩) (by show w.heap.size + 1 + 1 < wr.heap.size; omega)).trans (IRe i)
        have B7 := Be.trans (b7.mono Be.size)
        have O7 := HO.out.kept (below_grew b7) (fun q hq => by cases hq)
        have s7 := b7.size
        clear b7 Be z0 z1 z2 u0 u1 u2 XPe XRe IRe fP
        go_wp2_with fail
        refine bodyPost_ret (v := .tuple #[.agg #[.int .i64 j, .int .i64 CC, .slice (some ⟨g, 0, none⟩) N N], .bool true]) (by simp [results, Try.results34, go_sem, y0, y1, y2]) rfl ?_
        exact OwnIf.yes hf ⟨_, _, _, rfl, (by refine Own.to O7 (hk := fun g hg1 hg2 => by (try simp at hg1 hg2); repeat (first | rw [Below.heap_setCell _ _ _ _ (by simp; omega)] | rw [Below.heap_alloc _ _ _ (by simp [World.setCell]; omega)])) ?_ ?_ ?_ ?_ <;> (first | exact Nat.le_refl _ | omega | (simp [World.setCell]; done) | (simp [World.setCell]; omega))), HVe.out, (by repeat first | (with_reducible exact B7) | (with_reducible refine Below.setCell ?_ (by first | exact Nat.le_refl _ | (simp; done) | (simp; omega) | omega) _) | (with_reducible refine Below.alloc ?_ (by first | exact Nat.le_refl _ | (simp; done) | (simp; omega) | omega) _) | (with_reducible refine below_drewN ?_ _) | (with_reducible refine Below.drew ?_))⟩
      | false =>
        rw [hf] at hval
        go_wp2_with fail
        go_at_call 78
        refine (implGive_no j CC _ N N X _ (by omega) fP hval).mono ?_
        rintro e w7 ⟨rfl, b7⟩
        have Z7 := XRe.below b7 (by omega)
        obtain ⟨y0, y1, y2⟩ := Z7
        have I7 : ∀ i, w7.frozen? ⟨w.heap.size + 1 + 1, i, none⟩ = false := fun i => (b7.frozen (p := ⟨w.heap.size + 1 + 1, i, none⟩) (by show w.heap.size + 1 + 1 < wr.heap.size; omega)).trans (IRe i)
        have B7 := Be.trans (b7.mono Be.size)
        clear b7 Be z0 z1 z2 u0 u1 u2 XPe XRe IRe fP
        go_wp2_with fail
        refine bodyPost_ret (v := .tuple #[.agg #[.int .i64 0, .int .i64 0, .slice none 0 0], .bool false]) (by simp [results, Try.results34, go_sem, y0, y1, y2]) rfl ?_
        exact OwnIf.no hf ⟨none, 0, fun _ => 0, rfl, .inl ⟨rfl, rfl, rfl⟩, fun i hi => by omega, (by repeat first | (with_reducible exact B7) | (with_reducible refine Below.setCell ?_ (by first | exact Nat.le_refl _ | (simp; done) | (simp; omega) | omega) _) | (with_reducible refine Below.alloc ?_ (by first | exact Nat.le_refl _ | (simp; done) | (simp; omega) | omega) _) | (with_reducible refine below_drewN ?_ _) | (with_reducible refine Below.drew ?_))⟩
end Go.Proofs.Ytmddhhmgfhljiaa
