/- Helper: the flip of a matrix, of the program and of its reference. Conditions: none. -/
import Derived.Test.YtbmiolfpgoggaaaFlipWalks
set_option linter.unusedVariables false
set_option linter.unusedSimpArgs false
namespace Go.Proofs.Ytbmiolfpgoggaaa
open Go.RowKit

theorem implFlip_no (R C : Int) (a : Option Addr) (n c : Nat) (Z : Nat → Nat) (w : World) (hn : n ≤ 1048576) (h : FS .f32 w a n c Z) (hv : validB R C n (vals Z) = false) :
    Calls Try.prog 26 #[.agg #[.int .i64 R, .int .i64 C, .slice a n c]] w (MatOwn false 0 0 0 (fun _ => none) w) := by
  go_enter Try.func26, Try.ntmps26
  go_wp2_with fail
  go_at_call 43
  refine (implValid_any R C a n c Z _ hn (h.below (by repeat first | (with_reducible exact Below.refl _ _) | (with_reducible refine Below.setCell ?_ (by first | exact Nat.le_refl _ | (simp; done) | (simp; omega) | omega) _) | (with_reducible refine Below.alloc ?_ (by first | exact Nat.le_refl _ | (simp; done) | (simp; omega) | omega) _) | (with_reducible refine below_drewN ?_ _) | (with_reducible refine Below.drew ?_)) (Nat.le_refl _))).mono ?_
  rintro e w1 ⟨rfl, b1⟩
  have B1 : Below w.heap.size w w1 := Below.trans (by repeat first | (with_reducible exact Below.refl _ _) | (with_reducible refine Below.setCell ?_ (by first | exact Nat.le_refl _ | (simp; done) | (simp; omega) | omega) _) | (with_reducible refine Below.alloc ?_ (by first | exact Nat.le_refl _ | (simp; done) | (simp; omega) | omega) _) | (with_reducible refine below_drewN ?_ _) | (with_reducible refine Below.drew ?_)) (b1.mono (by simp <;> omega))
  obtain ⟨hc, hf⟩ := bcell b1
  have s1 : w.heap.size + 1 + 1 ≤ w1.heap.size := by have := b1.size; simp at this; omega
  go_wp2_with fail
  refine bodyPost_ret (v := .tuple #[.agg #[.int .i64 0, .int .i64 0, .slice none 0 0], .bool false]) (by simp [results, Try.results26, go_sem, hc]) rfl ?_
  exact ⟨none, 0, fun _ => 0, rfl, .inl ⟨rfl, rfl, rfl⟩, fun i hi => by omega, (by repeat first | (with_reducible exact B1) | (with_reducible refine Below.setCell ?_ (by first | exact Nat.le_refl _ | (simp; done) | (simp; omega) | omega) _) | (with_reducible refine Below.alloc ?_ (by first | exact Nat.le_refl _ | (simp; done) | (simp; omega) | omega) _) | (with_reducible refine below_drewN ?_ _) | (with_reducible refine Below.drew ?_))⟩
theorem implFlip_yes (r c n b off cap : Nat) (Z : Nat → Nat) (w : World) (hr1 : 1 ≤ r) (hr : r ≤ 12) (hc1 : 1 ≤ c) (hc : c ≤ 12) (hn : n = r * c) (hv : validB r c n (vals Z) = true) (h : FS .f32 w (some ⟨b, off, none⟩) n cap Z) :
    Calls Try.prog 26 #[.agg #[.int .i64 r, .int .i64 c, .slice (some ⟨b, off, none⟩) n cap]] w (MatOwn true c r n (fun t => vals (flipZ r c Z) t) w) := by
  have hn' : n ≤ 1048576 := by have := sides_le hr hc; omega
  have hN := Lib.hid hn
  clear hn
  go_enter Try.func26, Try.ntmps26
  go_wp2_with fail
  go_at_call 43
  refine (implValid_any r c _ n cap Z _ hn' (h.below (by repeat first | (with_reducible exact Below.refl _ _) | (with_reducible refine Below.setCell ?_ (by first | exact Nat.le_refl _ | (simp; done) | (simp; omega) | omega) _) | (with_reducible refine Below.alloc ?_ (by first | exact Nat.le_refl _ | (simp; done) | (simp; omega) | omega) _) | (with_reducible refine below_drewN ?_ _) | (with_reducible refine Below.drew ?_)) (Nat.le_refl _))).mono ?_
  rintro e w1 ⟨rfl, b1⟩
  have B1 : Below w.heap.size w w1 := Below.trans (by repeat first | (with_reducible exact Below.refl _ _) | (with_reducible refine Below.setCell ?_ (by first | exact Nat.le_refl _ | (simp; done) | (simp; omega) | omega) _) | (with_reducible refine Below.alloc ?_ (by first | exact Nat.le_refl _ | (simp; done) | (simp; omega) | omega) _) | (with_reducible refine below_drewN ?_ _) | (with_reducible refine Below.drew ?_)) (b1.mono (by simp <;> omega))
  have s1 : w.heap.size + 1 + 1 ≤ w1.heap.size := by have := b1.size; simp at this; omega
  have X1 : Box w1 w.heap.size r c (some ⟨b, off, none⟩) n cap := by
    obtain ⟨hc, hf⟩ := bcell b1
    refine ⟨?_, ?_, ?_⟩ <;> (rw [hc _ _ (by simp <;> omega)]; simp [go_sem])
  have Z1 : Box w1 (w.heap.size + 1) 0 0 none 0 0 := by
    obtain ⟨hc, hf⟩ := bcell b1
    refine ⟨?_, ?_, ?_⟩ <;> (rw [hc _ _ (by simp <;> omega)]; simp [go_sem])
  have I1 : ∀ i, w1.frozen? ⟨w.heap.size + 1, i, none⟩ = false := fun i => by rw [(bcell b1).2 _ _ (by simp <;> omega)]; simp [go_sem]
  clear b1
  obtain ⟨x0, x1, x2⟩ := X1
  go_wp2_with fail
  go_at_call 48
  refine (flipped_any r c n b off cap Z _ hr1 hr hc1 hc hN.out (h.below B1 (Nat.le_refl _))).mono ?_
  rintro e w2 ⟨g, rfl, o2, b2⟩
  obtain ⟨z0, z1, z2⟩ := Z1.below b2 (by omega)
  have I2 : ∀ i, w2.frozen? ⟨w.heap.size + 1, i, none⟩ = false := fun i => (b2.frozen (p := ⟨w.heap.size + 1, i, none⟩) (by show w.heap.size + 1 < w1.heap.size; omega)).trans (I1 i)
  have B2 : Below w.heap.size w w2 := B1.trans (b2.mono B1.size)
  have s2 : w1.heap.size ≤ w2.heap.size := b2.size
  clear I1 x0 x1 x2 b2
  go_wp2_with fail
  refine bodyPost_ret (v := .tuple #[.agg #[.int .i64 c, .int .i64 r, .slice (some ⟨g, 0, none⟩) n n], .bool true]) (by simp [results, Try.results26, go_sem, z0, z1, z2]) rfl ?_
  exact ⟨_, _, _, rfl, (by refine Own.to o2 (hk := fun g hg1 hg2 => by (try simp at hg1 hg2); repeat (first | rw [Below.heap_setCell _ _ _ _ (by simp; omega)] | rw [Below.heap_alloc _ _ _ (by simp [World.setCell]; omega)])) ?_ ?_ ?_ ?_ <;> (first | exact Nat.le_refl _ | omega | (simp [World.setCell]; done) | (simp [World.setCell]; omega))), fun i hi => rfl, (by repeat first | (with_reducible exact B2) | (with_reducible refine Below.setCell ?_ (by first | exact Nat.le_refl _ | (simp; done) | (simp; omega) | omega) _) | (with_reducible refine Below.alloc ?_ (by first | exact Nat.le_refl _ | (simp; done) | (simp; omega) | omega) _) | (with_reducible refine below_drewN ?_ _) | (with_reducible refine Below.drew ?_))⟩

end Go.Proofs.Ytbmiolfpgoggaaa
