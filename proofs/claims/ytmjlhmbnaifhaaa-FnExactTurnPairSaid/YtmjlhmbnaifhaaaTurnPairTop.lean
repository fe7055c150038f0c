/- Helper: a square of which two rows and columns are turned, of the reference from its start to its end. Conditions: none. -/
import Derived.Test.YtmjlhmbnaifhaaaTurnPairSpec
set_option linter.unusedVariables false
set_option linter.unusedSimpArgs false
namespace Go.Proofs.Ytmjlhmbnaifhaaa
open Go.RowKit

theorem specTP_no (R C : Int) (a : Option Addr) (n c : Nat) (Z : Nat → Nat) (i k : Int) (w : World) (hn : n ≤ 1048576) (h : FS .f32 w a n c Z) (ho : pairB R C n (vals Z) i k = false) :
    Calls Try.prog 24 #[.agg #[.int .i64 R, .int .i64 C, .slice a n c], .int .i64 i, .int .i64 k] w (MatBel false 0 0 0 (fun _ => none) w) := by
  have HO := Lib.hid ho
  clear ho
  go_enter Try.func24, Try.ntmps24
  go_wp2_with fail
  go_at_call 54
  refine (specPair_any w.heap.size R C a n c Z i k _ hn (by refine ⟨?_, ?_, ?_⟩ <;> simp [go_sem]) (h.below (by repeat first | (with_reducible exact Below.refl _ _) | (with_reducible refine Below.setCell ?_ (by first | exact Nat.le_refl _ | (simp; done) | (simp; omega) | omega) _) | (with_reducible refine Below.alloc ?_ (by first | exact Nat.le_refl _ | (simp; done) | (simp; omega) | omega) _) | (with_reducible refine below_drewN ?_ _) | (with_reducible refine Below.drew ?_)) (Nat.le_refl _))).mono ?_
  rintro e w1 ⟨rfl, m1, rfl⟩
  rw [HO.out]
  go_wp2_with fail
  refine bodyPost_ret (v := .tuple #[.agg #[.int .i64 0, .int .i64 0, .slice none 0 0], .bool false]) (by simp [results, Try.results24, go_sem]) rfl ?_
  exact ⟨none, 0, fun _ => 0, rfl, ⟨Nat.le_refl _, Nat.zero_le _, fun i hi => absurd hi (Nat.not_lt_zero _)⟩, fun i hi => absurd hi (Nat.not_lt_zero _), (by repeat first | (with_reducible exact Below.refl _ _) | (with_reducible refine Below.setCell ?_ (by first | exact Nat.le_refl _ | (simp; done) | (simp; omega) | omega) _) | (with_reducible refine Below.alloc ?_ (by first | exact Nat.le_refl _ | (simp; done) | (simp; omega) | omega) _) | (with_reducible refine below_drewN ?_ _) | (with_reducible refine Below.drew ?_))⟩
set_option maxRecDepth 20000 in
set_option maxHeartbeats 2000000 in
theorem specTP_fail (r x y p o n c : Nat) (Z : Nat → Nat) (w : World) (h1 : 1 ≤ r) (h12 : r ≤ 12) (hn : n = r * r) (hxy : x < y) (hy : y < r) (ho : pairB r r n (vals Z) x y = true) (hB : tB r x y (vals Z) = false) (h : FS .f32 w (some ⟨p, o, none⟩) n c Z) :
    Calls Try.prog 24 #[.agg #[.int .i64 r, .int .i64 r, .slice (some ⟨p, o, none⟩) n c], .int .i64 x, .int .i64 y] w (MatBel false 0 0 0 (fun _ => none) w) := by
  have h144 : n ≤ 144 := by have := sides_le h12 h12; omega
  have HO := Lib.hid ho
  have HB := Lib.hid hB
  have HN := Lib.hid hn
  clear ho hB hn
  go_enter Try.func24, Try.ntmps24
  go_wp2_with fail
  go_at_call 54
  refine (specPair_any w.heap.size r r _ n c Z x y _ (by omega) (by refine ⟨?_, ?_, ?_⟩ <;> simp [go_sem]) (h.below (by repeat first | (with_reducible exact Below.refl _ _) | (with_reducible refine Below.setCell ?_ (by first | exact Nat.le_refl _ | (simp; done) | (simp; omega) | omega) _) | (with_reducible refine Below.alloc ?_ (by first | exact Nat.le_refl _ | (simp; done) | (simp; omega) | omega) _) | (with_reducible refine below_drewN ?_ _) | (with_reducible refine Below.drew ?_)) (Nat.le_refl _))).mono ?_
  rintro e w1 ⟨rfl, m1, rfl⟩
  rw [HO.out]
  go_wp2_with fail
  go_at_call 55
  refine (specTurn_any w.heap.size r x y p o n c Z _ h1 h12 HN.out (by omega) hy (by refine ⟨?_, ?_, ?_⟩ <;> simp [go_sem]) (h.below (by repeat first | (with_reducible exact Below.refl _ _) | (with_reducible refine Below.setCell ?_ (by first | exact Nat.le_refl _ | (simp; done) | (simp; omega) | omega) _) | (with_reducible refine Below.alloc ?_ (by first | exact Nat.le_refl _ | (simp; done) | (simp; omega) | omega) _) | (with_reducible refine below_drewN ?_ _) | (with_reducible refine Below.drew ?_)) (Nat.le_refl _))).mono ?_
  rw [HB.out]
  rintro e w2 ⟨rc, rs, rfl, f1, f2, m2, rfl⟩
  go_wp2_with fail
  refine bodyPost_ret (v := .tuple #[.agg #[.int .i64 0, .int .i64 0, .slice none 0 0], .bool false]) (by simp [results, Try.results24, go_sem]) rfl ?_
  exact ⟨none, 0, fun _ => 0, rfl, ⟨Nat.le_refl _, Nat.zero_le _, fun i hi => absurd hi (Nat.not_lt_zero _)⟩, fun i hi => absurd hi (Nat.not_lt_zero _), (by repeat first | (with_reducible exact Below.refl _ _) | (with_reducible refine Below.setCell ?_ (by first | exact Nat.le_refl _ | (simp; done) | (simp; omega) | omega) _) | (with_reducible refine Below.alloc ?_ (by first | exact Nat.le_refl _ | (simp; done) | (simp; omega) | omega) _) | (with_reducible refine below_drewN ?_ _) | (with_reducible refine Below.drew ?_))⟩
set_option maxRecDepth 20000 in
set_option maxHeartbeats 4000000 in
theorem specTP_yes (r x y p o n c : Nat) (Z : Nat → Nat) (w : World) (h1 : 1 ≤ r) (h12 : r ≤ 12) (hn : n = r * r) (hxy : x < y) (hy : y < r) (ho : pairB r r n (vals Z) x y = true) (hB : tB r x y (vals Z) = true) (h : FS .f32 w (some ⟨p, o, none⟩) n c Z) :
    Calls Try.prog 24 #[.agg #[.int .i64 r, .int .i64 r, .slice (some ⟨p, o, none⟩) n c], .int .i64 x, .int .i64 y] w (BelIf (allFin (tpV (tC r x y (vals Z)) (fneg .f32 (tS r x y (vals Z))) r x y (vals Z)) n) r r n (tpV (tC r x y (vals Z)) (fneg .f32 (tS r x y (vals Z))) r x y (vals Z)) w) := by
  have h144 : n ≤ 144 := by have := sides_le h12 h12; omega
  have hpos : 0 < n := by rw [hn]; exact Nat.mul_pos h1 h1
  have HO := Lib.hid ho
  have HB := Lib.hid hB
  have HN := Lib.hid hn
  obtain ⟨CC, hCC⟩ : ∃ C, C = tC r x y (vals Z) := ⟨_, rfl⟩
  obtain ⟨SS, hSS⟩ : ∃ S, S = tS r x y (vals Z) := ⟨_, rfl⟩
  obtain ⟨F, hF⟩ : ∃ F, F = tpV (tC r x y (vals Z)) (fneg .f32 (tS r x y (vals Z))) r x y (vals Z) := ⟨_, rfl⟩
  rw [← hF]
  have HF := Lib.hid hF
  clear ho hB hn hF
  go_enter Try.func24, Try.ntmps24
  go_wp2_with fail
  go_at_call 54
  refine (specPair_any w.heap.size r r _ n c Z x y _ (by omega) (by refine ⟨?_, ?_, ?_⟩ <;> simp [go_sem]) (h.below (by repeat first | (with_reducible exact Below.refl _ _) | (with_reducible refine Below.setCell ?_ (by first | exact Nat.le_refl _ | (simp; done) | (simp; omega) | omega) _) | (with_reducible refine Below.alloc ?_ (by first | exact Nat.le_refl _ | (simp; done) | (simp; omega) | omega) _) | (with_reducible refine below_drewN ?_ _) | (with_reducible refine Below.drew ?_)) (Nat.le_refl _))).mono ?_
  rintro e w1 ⟨rfl, m1, rfl⟩
  rw [HO.out]
  go_wp2_with fail
  go_at_call 55
  refine (specTurn_any w.heap.size r x y p o n c Z _ h1 h12 HN.out (by omega) hy (by refine ⟨?_, ?_, ?_⟩ <;> simp [go_sem]) (h.below (by repeat first | (with_reducible exact Below.refl _ _) | (with_reducible refine Below.setCell ?_ (by first | exact Nat.le_refl _ | (simp; done) | (simp; omega) | omega) _) | (with_reducible refine Below.alloc ?_ (by first | exact Nat.le_refl _ | (simp; done) | (simp; omega) | omega) _) | (with_reducible refine below_drewN ?_ _) | (with_reducible refine Below.drew ?_)) (Nat.le_refl _))).mono ?_
  rw [HB.out]
  rintro e w2 ⟨rc, rs, rfl, f1, f2, m2, rfl⟩
  go_wp2_with fail
  go_at_call 56
  refine (l02Own_any w.heap.size p o n c r r Z _ hpos h144 (by simp [World.drewN]; omega) (by refine ⟨?_, ?_, ?_⟩ <;> simp [go_sem]) (h.below (by repeat first | (with_reducible exact Below.refl _ _) | (with_reducible refine Below.setCell ?_ (by first | exact Nat.le_refl _ | (simp; done) | (simp; omega) | omega) _) | (with_reducible refine Below.alloc ?_ (by first | exact Nat.le_refl _ | (simp; done) | (simp; omega) | omega) _) | (with_reducible refine below_drewN ?_ _) | (with_reducible refine Below.drew ?_)) (Nat.le_refl _))).mono ?_
  rintro e w3 ⟨gs, ds, rfl, os, b3⟩
  have s3 : w.heap.size + 1 + 1 ≤ w3.heap.size := by have := b3.size; simp [World.drewN] at this; omega
  have B3 : Below w.heap.size w w3 := Below.trans (by repeat first | (with_reducible exact Below.refl _ _) | (with_reducible refine Below.setCell ?_ (by first | exact Nat.le_refl _ | (simp; done) | (simp; omega) | omega) _) | (with_reducible refine Below.alloc ?_ (by first | exact Nat.le_refl _ | (simp; done) | (simp; omega) | omega) _) | (with_reducible refine below_drewN ?_ _) | (with_reducible refine Below.drew ?_)) (b3.mono (by simp [World.drewN]; omega))
  have XR3 : Box w3 (w.heap.size + 1) 0 0 none 0 0 := Box.below (by refine ⟨?_, ?_, ?_⟩ <;> simp [go_sem]) b3 (by simp [World.drewN])
  have IR3 : ∀ i, w3.frozen? ⟨w.heap.size + 1, i, none⟩ = false := fun i => (b3.frozen (p := ⟨w.heap.size + 1, i, none⟩) (by simp [World.drewN])).trans (by simp [go_sem])
  obtain ⟨_, _, t1', t2, _, _⟩ := os.cell hpos
  have t1 : w.heap.size + 1 + 1 ≤ gs := by simp [World.drewN] at t1'; omega
  have os3 := os.alone hpos
  clear b3 os t1'
  go_upto_region 7 with (fail)
  have XM4 := Box.new w3 26 r r (some ⟨gs, 0, none⟩) n ds
  have b4 : Below w3.heap.size w3 (w3.alloc (.cells #[.int .i64 r, .int .i64 r, .slice (some ⟨gs, 0, none⟩) n ds] 26)) := (by repeat first | (with_reducible exact Below.refl _ _) | (with_reducible refine Below.setCell ?_ (by first | exact Nat.le_refl _ | (simp; done) | (simp; omega) | omega) _) | (with_reducible refine Below.alloc ?_ (by first | exact Nat.le_refl _ | (simp; done) | (simp; omega) | omega) _) | (with_reducible refine below_drewN ?_ _) | (with_reducible refine Below.drew ?_))
  have s4 : w3.heap.size < (w3.alloc (.cells #[.int .i64 r, .int .i64 r, .slice (some ⟨gs, 0, none⟩) n ds] 26)).heap.size := by simp
  generalize w3.alloc (.cells #[.int .i64 r, .int .i64 r, .slice (some ⟨gs, 0, none⟩) n ds] 26) = w4 at XM4 b4 s4 ⊢
  have B4 := B3.trans (b4.mono B3.size)
  have XR4 := XR3.below b4 (by omega)
  have IR4 : ∀ i, w4.frozen? ⟨w.heap.size + 1, i, none⟩ = false := fun i => (b4.frozen (p := ⟨w.heap.size + 1, i, none⟩) (by show w.heap.size + 1 < w3.heap.size; omega)).trans (IR3 i)
  have os4 := os3.kept (below_grew b4) (fun q hq => by cases hq)
  obtain ⟨mb, hmb⟩ : ∃ mb, mb = w3.heap.size := ⟨_, rfl⟩
  rw [← hmb] at XM4 s4 t2 ⊢
  have hmb2 : w.heap.size + 1 + 1 ≤ mb := by omega
  have hmg : mb ≠ gs := by omega
  clear b4 B3 XR3 IR3 os3 hmb s3
  go_wp2_with fail
  go_at_call 57
  refine (l04Turned_any mb r n x y gs ds gs (gs + 1) rc rs f1 f2 Z _ h1 h12 HN.out hxy hy s4 hmg XM4 os4).mono ?_
  rintro e w5 ⟨rfl, X, o5, v5, g5⟩
  have s5 := g5.size
  have XM5 := XM4.grown g5 s4 (fun q hq => by cases hq; exact hmg)
  have XR5 := XR4.grown g5 (by omega) (fun q hq => by cases hq; omega)
  have IR5 : ∀ i, w5.frozen? ⟨w.heap.size + 1, i, none⟩ = false := fun i => (World.frozen?_of_block (a := ⟨w.heap.size + 1, i, none⟩) (g5.block (w.heap.size + 1) (by omega) (fun e => by have := Option.some.inj e; omega))).trans (IR4 i)
  have B5 := B4.grown g5 B4.size (fun q hq => by cases hq; omega)
  have hvF : ∀ t, t < n → vals X t = F t := fun t ht => by rw [HF.out]; exact v5 t ht
  have hvB : validB r r n (vals X) = allFin F n := (validB_nat h1 h12 h1 h12 HN.out).trans (allFin_congr hvF)
  have hfs := o5.fs
  have HV := Lib.hid hvF
  have K1 := Lib.hid o5
  obtain ⟨y0, y1, y2⟩ := XM5
  clear XM4 XR4 IR4 B4 os4 g5 o5 v5 hvF
  cases hf : allFin F n with
  | true =>
    rw [hf] at hvB
    go_wp2_with fail
    go_at_call 48
    refine (specGive_yes _ _ _ _ _ X _ (by omega) hfs hvB).mono ?_
    rintro e w9 ⟨rfl, b9⟩
    have o9 := K1.out.kept (below_grew b9) (fun q hq => by cases hq)
    have B9 := B5.trans (b9.mono B5.size)
    have s9 := b9.size
    obtain ⟨z0, z1, z2⟩ := XR5.below b9 (by omega)
    have hice : ∀ i, w9.frozen? ⟨w.heap.size + 1, i, none⟩ = false := fun i => (b9.frozen (p := ⟨w.heap.size + 1, i, none⟩) (by show w.heap.size + 1 < w5.heap.size; omega)).trans (IR5 i)
    clear b9 y0 y1 y2 XR5 IR5 hfs K1
    go_wp2_with fail
    refine bodyPost_ret (v := .tuple #[.agg #[.int .i64 r, .int .i64 r, .slice (some ⟨gs, 0, none⟩) n ds], .bool true]) (by simp [results, Try.results24, go_sem, z0, z1, z2]) rfl ?_
    have hne : ∀ q, (∃ off, (some ⟨gs, 0, none⟩ : Option Addr) = some ⟨q, off, none⟩) → q ≠ w.heap.size + 1 := by rintro q ⟨off, hq⟩; cases hq; omega
    exact BelIf.yes hf ⟨_, _, X, rfl, FS.to o9.fs (by simp [World.setCell]) (fun q hq => by have hf := hne q hq; rw [Below.heap_setCell _ _ _ _ hf, Below.heap_setCell _ _ _ _ hf, Below.heap_setCell _ _ _ _ hf]), fun i hi => HV.out i hi, (by repeat first | (with_reducible exact B9) | (with_reducible refine Below.setCell ?_ (by first | exact Nat.le_refl _ | (simp; done) | (simp; omega) | omega) _) | (with_reducible refine Below.alloc ?_ (by first | exact Nat.le_refl _ | (simp; done) | (simp; omega) | omega) _) | (with_reducible refine below_drewN ?_ _) | (with_reducible refine Below.drew ?_))⟩
  | false =>
    rw [hf] at hvB
    go_wp2_with fail
    go_at_call 48
    refine (specGive_no _ _ _ _ _ X _ (by omega) hfs hvB).mono ?_
    rintro e w9 ⟨rfl, b9⟩
    have B9 := B5.trans (b9.mono B5.size)
    have s9 := b9.size
    obtain ⟨z0, z1, z2⟩ := XR5.below b9 (by omega)
    have hice : ∀ i, w9.frozen? ⟨w.heap.size + 1, i, none⟩ = false := fun i => (b9.frozen (p := ⟨w.heap.size + 1, i, none⟩) (by show w.heap.size + 1 < w5.heap.size; omega)).trans (IR5 i)
    clear b9 y0 y1 y2 XR5 IR5 hfs K1
    go_wp2_with fail
    refine bodyPost_ret (v := .tuple #[.agg #[.int .i64 0, .int .i64 0, .slice none 0 0], .bool false]) (by simp [results, Try.results24, go_sem, z0, z1, z2]) rfl ?_
    exact BelIf.no hf ⟨none, 0, fun _ => 0, rfl, ⟨Nat.le_refl _, Nat.zero_le _, fun i hi => absurd hi (Nat.not_lt_zero _)⟩, fun i hi => absurd hi (Nat.not_lt_zero _), (by repeat first | (with_reducible exact B9) | (with_reducible refine Below.setCell ?_ (by first | exact Nat.le_refl _ | (simp; done) | (simp; omega) | omega) _) | (with_reducible refine Below.alloc ?_ (by first | exact Nat.le_refl _ | (simp; done) | (simp; omega) | omega) _) | (with_reducible refine below_drewN ?_ _) | (with_reducible refine Below.drew ?_))⟩
end Go.Proofs.Ytmjlhmbnaifhaaa
