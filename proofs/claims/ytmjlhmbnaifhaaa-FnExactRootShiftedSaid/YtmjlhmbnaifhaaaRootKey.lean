/- Helper: the root of a square, told by program and reference alike. Conditions: none. -/
import Derived.Test.YtmjlhmbnaifhaaaRootSqImpl
import Derived.Test.YtmjlhmbnaifhaaaRootSqSpec
set_option linter.unusedVariables false
set_option linter.unusedSimpArgs false
namespace Go.Proofs.Ytmjlhmbnaifhaaa
open Go.RowKit

theorem Own.addrR {T : TypeId} {k : FloatKind} {B U : Nat} {w : World} {a : Option Addr} {n c : Nat} {Z : Nat → Nat} (h : Own T k B U w a n c Z) (hn : 0 < n) : ∃ g, a = some ⟨g, 0, none⟩ := by
  rcases h with ⟨_, h0, _⟩ | ⟨g, xs, rfl, _⟩
  · omega
  · exact ⟨g, rfl⟩
/-- What is added to finite numbers in the middle, being nothing, does not turn the root. -/
theorem rt_zero {w : World} {r N p1 o1 d1 : Nat} {Z : Nat → Nat} (hn : N = r * r) (hf : allFin (vals Z) N = true) (h : FS .f32 w (some ⟨p1, o1, none⟩) N d1 Z) :
    rtGood r N (diagV r (vals Z) (some 0)) = rtGood r N (vals Z) ∧ (rtGood r N (vals Z) = true → rtS r (diagV r (vals Z) (some 0)) N = rtS r (vals Z) N) :=
  rt_good hn (fun i hi => by
    have hp : i * r + i < N := by rw [hn]; exact place_lt hi hi
    rw [diagV_on hi]
    have hx := allFin_lt hf hp
    obtain ⟨e1, _⟩ := cn_fin hx
    obtain ⟨_, _, _, _, _, hw⟩ := h.at hp
    have hlt := lt32 hw.2
    show RZ (fop .add .f32 (cn .f32 (Z (i * r + i))) (some 0)) (cn .f32 (Z (i * r + i)))
    rw [e1]
    exact RZ.add0 (by omega) (by rw [← e1]; exact hx)) (fun i k hi hk => diagV_off (by omega) (by omega))
theorem specRootSq_no (R C : Int) (a : Option Addr) (n c : Nat) (Z : Nat → Nat) (w : World) (hn : n ≤ 1048576) (h : FS .f32 w a n c Z) (hsq : squareB R C n (vals Z) = false) :
    Calls Try.prog 10 #[.agg #[.int .i64 R, .int .i64 C, .slice a n c]] w (MatBel false 0 0 0 (fun _ => none) w) := by
  have HSQ := Lib.hid hsq
  clear hsq
  go_enter Try.func10, Try.ntmps10
  go_wp2_with fail
  go_at_call 32
  refine (specSquare_any _ R C a n c Z _ hn (by refine ⟨?_, ?_, ?_⟩ <;> simp [go_sem]) (h.below (by repeat first | (with_reducible exact Below.refl _ _) | (with_reducible refine Below.setCell ?_ (by first | exact Nat.le_refl _ | (simp; done) | (simp; omega) | omega) _) | (with_reducible refine Below.alloc ?_ (by first | exact Nat.le_refl _ | (simp; done) | (simp; omega) | omega) _) | (with_reducible refine below_drewN ?_ _) | (with_reducible refine Below.drew ?_)) (Nat.le_refl _))).mono ?_
  rintro e w1 ⟨rfl, m1, rfl⟩
  rw [HSQ.out]
  go_wp2_with fail
  refine bodyPost_ret (v := .tuple #[.agg #[.int .i64 0, .int .i64 0, .slice none 0 0], .bool false]) (by simp [results, Try.results10, go_sem]) rfl ?_
  exact ⟨none, 0, fun _ => 0, rfl, ⟨Nat.le_refl _, Nat.zero_le _, fun i hi => absurd hi (Nat.not_lt_zero _)⟩, fun i hi => absurd hi (Nat.not_lt_zero _), (by repeat first | (with_reducible exact Below.refl _ _) | (with_reducible refine Below.setCell ?_ (by first | exact Nat.le_refl _ | (simp; done) | (simp; omega) | omega) _) | (with_reducible refine Below.alloc ?_ (by first | exact Nat.le_refl _ | (simp; done) | (simp; omega) | omega) _) | (with_reducible refine below_drewN ?_ _) | (with_reducible refine Below.drew ?_))⟩
set_option maxHeartbeats 1000000 in
theorem specRootSq_yes (r N p1 o1 d1 : Nat) (Z : Nat → Nat) (w : World) (h1 : 1 ≤ r) (h12 : r ≤ 12) (hn : N = r * r) (hsq : squareB r r N (vals Z) = true) (hf : allFin (vals Z) N = true) (h : FS .f32 w (some ⟨p1, o1, none⟩) N d1 Z) :
    Calls Try.prog 10 #[.agg #[.int .i64 r, .int .i64 r, .slice (some ⟨p1, o1, none⟩) N d1]] w (BelIf (rtGood r N (vals Z)) r r N (rtS r (vals Z) N) w) := by
  have HN := Lib.hid hn
  have h144 : N ≤ 144 := by have := sides_le h12 h12; omega
  have hpos : 0 < N := by rw [hn]; exact Nat.mul_pos h1 h1
  have HSQ := Lib.hid hsq
  obtain ⟨e1, e2⟩ := rt_zero hn hf h
  have hroot : ∀ W, Box W w.heap.size r r (some ⟨p1, o1, none⟩) N d1 → w.heap.size < W.heap.size → FS .f32 W (some ⟨p1, o1, none⟩) N d1 Z → Calls Try.prog 33 #[.pointer (some ⟨w.heap.size, 0, none⟩), .float .f32 0] W (OwnIf (rtGood r N (vals Z)) r r N (rtS r (vals Z) N) W) := fun W hB hl hF => by
    have hh := l03Root_any w.heap.size r N p1 o1 d1 0 (some 0) Z W h1 h12 hn hl hB (FV.lit (by kernel_rfl) (by kernel_rfl)) hF
    rw [e1] at hh
    cases hg : rtGood r N (vals Z) with
    | false => rw [hg] at hh; exact hh
    | true => rw [hg, e2 hg] at hh; exact hh
  have HR := Lib.hid hroot
  clear hn hsq e1 e2 hroot hf
  go_enter Try.func10, Try.ntmps10
  go_wp2_with fail
  generalize hwa : w.alloc (.cells #[.int .i64 r, .int .i64 r, .slice (some ⟨p1, o1, none⟩) N d1] 26) = wa
  have Ba : Below w.heap.size w wa := by rw [← hwa]; exact (by repeat first | (with_reducible exact Below.refl _ _) | (with_reducible refine Below.setCell ?_ (by first | exact Nat.le_refl _ | (simp; done) | (simp; omega) | omega) _) | (with_reducible refine Below.alloc ?_ (by first | exact Nat.le_refl _ | (simp; done) | (simp; omega) | omega) _) | (with_reducible refine below_drewN ?_ _) | (with_reducible refine Below.drew ?_))
  have sa : wa.heap.size = w.heap.size + 1 := by rw [← hwa]; simp
  have Xa : Box wa w.heap.size r r (some ⟨p1, o1, none⟩) N d1 := by rw [← hwa]; exact Box.new _ _ _ _ _ _ _
  have Fa := h.below Ba (Nat.le_refl _)
  rw [← sa]
  clear hwa h
  have la : w.heap.size < wa.heap.size := by omega
  have b0 : Below wa.heap.size wa (wa.alloc (.cells #[.int .i64 0, .int .i64 0, .slice none 0 0] 26)) := (by repeat first | (with_reducible exact Below.refl _ _) | (with_reducible refine Below.setCell ?_ (by first | exact Nat.le_refl _ | (simp; done) | (simp; omega) | omega) _) | (with_reducible refine Below.alloc ?_ (by first | exact Nat.le_refl _ | (simp; done) | (simp; omega) | omega) _) | (with_reducible refine below_drewN ?_ _) | (with_reducible refine Below.drew ?_))
  go_at_call 32
  refine (specSquare_any w.heap.size r r _ N d1 Z _ (by omega) (Xa.below b0 la) (Fa.below b0 (Nat.le_refl _))).mono ?_
  rintro e w1 ⟨rfl, m1, rfl⟩
  rw [HSQ.out]
  go_wp2_with fail
  go_at_call 33
  refine (HR.out _ ((Xa.below b0 la).drewN) (by simp [World.drewN]; omega) (FS.drewN (Fa.below b0 (Nat.le_refl _)))).mono ?_
  cases hg : rtGood r N (vals Z) with
  | false =>
    rintro e w2 ⟨g, d, Y, rfl, o2, hY, b2⟩
    have B2 : Below wa.heap.size wa w2 := Below.trans (by repeat first | (with_reducible exact Below.refl _ _) | (with_reducible refine Below.setCell ?_ (by first | exact Nat.le_refl _ | (simp; done) | (simp; omega) | omega) _) | (with_reducible refine Below.alloc ?_ (by first | exact Nat.le_refl _ | (simp; done) | (simp; omega) | omega) _) | (with_reducible refine below_drewN ?_ _) | (with_reducible refine Below.drew ?_)) (b2.mono (by simp [World.drewN]))
    have B3 := Ba.trans (B2.mono Ba.size)
    obtain ⟨z0, z1, z2⟩ : Box w2 wa.heap.size 0 0 none 0 0 := Box.below (by refine ⟨?_, ?_, ?_⟩ <;> simp [go_sem]) b2 (by simp [World.drewN])
    have hice : ∀ i, w2.frozen? ⟨wa.heap.size, i, none⟩ = false := fun i => (b2.frozen (p := ⟨wa.heap.size, i, none⟩) (by simp [World.drewN])).trans (by simp [go_sem])
    have hF2 := o2.fs
    rw [sa] at z0 z1 z2
    simp only [sa] at hice
    clear b2 B2
    go_wp2_with fail
    refine bodyPost_ret (v := .tuple #[.agg #[.int .i64 0, .int .i64 0, .slice g 0 d], .bool false]) (by simp [results, Try.results10, go_sem, z0, z1, z2]) rfl ?_
    exact BelIf.no hg ⟨_, _, Y, rfl, FS.zero hF2.2.1, fun i hi => absurd hi (Nat.not_lt_zero _), (by repeat first | (with_reducible exact B3) | (with_reducible refine Below.setCell ?_ (by first | exact Nat.le_refl _ | (simp; done) | (simp; omega) | omega) _) | (with_reducible refine Below.alloc ?_ (by first | exact Nat.le_refl _ | (simp; done) | (simp; omega) | omega) _) | (with_reducible refine below_drewN ?_ _) | (with_reducible refine Below.drew ?_))⟩
  | true =>
    rintro e w2 ⟨g', d, Y, rfl, o2, hY, b2⟩
    obtain ⟨g, rfl⟩ := o2.addrR hpos
    obtain ⟨_, _, gB', _, _, _⟩ := o2.cell hpos
    have gB : wa.heap.size < g := by simp [World.drewN] at gB'; omega
    have B2 : Below wa.heap.size wa w2 := Below.trans (by repeat first | (with_reducible exact Below.refl _ _) | (with_reducible refine Below.setCell ?_ (by first | exact Nat.le_refl _ | (simp; done) | (simp; omega) | omega) _) | (with_reducible refine Below.alloc ?_ (by first | exact Nat.le_refl _ | (simp; done) | (simp; omega) | omega) _) | (with_reducible refine below_drewN ?_ _) | (with_reducible refine Below.drew ?_)) (b2.mono (by simp [World.drewN]))
    have B3 := Ba.trans (B2.mono Ba.size)
    obtain ⟨z0, z1, z2⟩ : Box w2 wa.heap.size 0 0 none 0 0 := Box.below (by refine ⟨?_, ?_, ?_⟩ <;> simp [go_sem]) b2 (by simp [World.drewN])
    have hice : ∀ i, w2.frozen? ⟨wa.heap.size, i, none⟩ = false := fun i => (b2.frozen (p := ⟨wa.heap.size, i, none⟩) (by simp [World.drewN])).trans (by simp [go_sem])
    have hF2 := o2.fs
    rw [sa] at z0 z1 z2
    simp only [sa] at hice gB
    have hne : ∀ q, (∃ off, (some ⟨g, 0, none⟩ : Option Addr) = some ⟨q, off, none⟩) → q ≠ w.heap.size + 1 := by rintro q ⟨off, hq⟩; cases hq; omega
    clear b2 B2 gB' o2
    go_wp2_with fail
    refine bodyPost_ret (v := .tuple #[.agg #[.int .i64 r, .int .i64 r, .slice (some ⟨g, 0, none⟩) N d], .bool true]) (by simp [results, Try.results10, go_sem, z0, z1, z2]) rfl ?_
    exact BelIf.yes hg ⟨_, _, Y, rfl, FS.to hF2 (by simp [World.setCell]) (fun q hq => by have hf := hne q hq; rw [Below.heap_setCell _ _ _ _ hf, Below.heap_setCell _ _ _ _ hf, Below.heap_setCell _ _ _ _ hf]), hY, (by repeat first | (with_reducible exact B3) | (with_reducible refine Below.setCell ?_ (by first | exact Nat.le_refl _ | (simp; done) | (simp; omega) | omega) _) | (with_reducible refine Below.alloc ?_ (by first | exact Nat.le_refl _ | (simp; done) | (simp; omega) | omega) _) | (with_reducible refine below_drewN ?_ _) | (with_reducible refine Below.drew ?_))⟩
theorem keyRootOfSquare (R0 C0 : Int) (n0 : Nat) (Z0 : Nat → Nat) (hn0 : n0 ≤ 1048576) : ∃ (ok : Bool) (R C : Int) (n : Nat) (V : Nat → Option Nat), n ≤ 144 ∧
    (∀ a c W, FS .f32 W a n0 c Z0 → Calls Try.prog 10 #[.agg #[.int .i64 R0, .int .i64 C0, .slice a n0 c]] W (MatBel ok R C n V W)) ∧
    (∀ a c W, FS .f32 W a n0 c Z0 → Calls Try.prog 12 #[.agg #[.int .i64 R0, .int .i64 C0, .slice a n0 c]] W (MatOwn ok R C n V W)) := by
  cases hs : squareB R0 C0 n0 (vals Z0) with
  | false => exact ⟨false, 0, 0, 0, fun _ => none, by omega, fun a c W h => specRootSq_no R0 C0 a n0 c Z0 W hn0 h hs, fun a c W h => implRootSq_no R0 C0 a n0 c Z0 W hn0 h hs⟩
  | true =>
    obtain ⟨r, rfl, rfl, h1, h12, hN, hf⟩ := square_nat hs
    have hpos : 0 < n0 := by rw [hN]; exact Nat.mul_pos h1 h1
    have k1 : ∀ a c W, FS .f32 W a n0 c Z0 → Calls Try.prog 10 #[.agg #[.int .i64 (r : Int), .int .i64 (r : Int), .slice a n0 c]] W (BelIf (rtGood r n0 (vals Z0)) r r n0 (rtS r (vals Z0) n0) W) := fun a c W h => by
      obtain ⟨p1, o1, rfl, _⟩ := h.at hpos
      exact specRootSq_yes r n0 p1 o1 c Z0 W h1 h12 hN hs hf h
    have k2 : ∀ a c W, FS .f32 W a n0 c Z0 → Calls Try.prog 12 #[.agg #[.int .i64 (r : Int), .int .i64 (r : Int), .slice a n0 c]] W (OwnIf (rtGood r n0 (vals Z0)) r r n0 (rtS r (vals Z0) n0) W) := fun a c W h => by
      obtain ⟨p1, o1, rfl, _⟩ := h.at hpos
      exact implRootSq_yes r n0 p1 o1 c Z0 W h1 h12 hN hs h
    cases hg : rtGood r n0 (vals Z0) with
    | false =>
      rw [hg] at k1 k2
      exact ⟨false, 0, 0, 0, fun _ => none, by omega, k1, k2⟩
    | true =>
      rw [hg] at k1 k2
      exact ⟨true, r, r, n0, rtS r (vals Z0) n0, by have := sides_le h12 h12; omega, k1, k2⟩
end Go.Proofs.Ytmjlhmbnaifhaaa
