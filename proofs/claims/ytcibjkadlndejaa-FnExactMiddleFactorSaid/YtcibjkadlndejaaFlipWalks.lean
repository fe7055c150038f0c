/- Helper: walks of the flip of a matrix, of the program and of its reference. Conditions: none. -/
import Derived.Test.YtcibjkadlndejaaBuild
import Derived.Deep.RegionHeld3
import Derived.Deep.RegionLaw
set_option linter.unusedVariables false
set_option linter.unusedSimpArgs false
namespace Go.Proofs.Ytcibjkadlndejaa
open Go.RowKit

def flipP (r c i k : Nat) (Z : Nat → Nat) (t : Nat) : Nat := if t % r < i ∨ (t % r = i ∧ t / r < k) then Z (t % r * c + t / r) else 0
theorem flip_step {r c i k : Nat} {Z : Nat → Nat} (hi : i < r) (t : Nat) : (if t = k * r + i then Z (i * c + k) else flipP r c i k Z t) = flipP r c i (k + 1) Z t := by
  unfold flipP
  obtain ⟨h1, h2⟩ := place_div (j := k) hi
  by_cases e : t = k * r + i
  · subst e
    rw [if_pos rfl, h1, h2, if_pos (.inr ⟨rfl, by omega⟩)]
  · rw [if_neg e]
    have hp := place_eq (c := r) (t := t)
    by_cases h : t % r < i ∨ (t % r = i ∧ t / r < k)
    · rw [if_pos h, if_pos (by omega)]
    · rw [if_neg h, if_neg]
      intro h'
      have : t % r = i ∧ t / r = k := by omega
      rw [this.1, this.2] at hp
      exact e hp.symm
theorem flip_next {r c i : Nat} {Z : Nat → Nat} (t : Nat) (ht : t < c * r) (hr : 0 < r) : flipP r c i c Z t = flipP r c (i + 1) 0 Z t := by
  unfold flipP
  have h1 : t / r < c := Nat.div_lt_of_lt_mul (by rw [Nat.mul_comm]; exact ht)
  generalize t / r = x at *
  generalize t % r = y at *
  by_cases h : y < i ∨ (y = i ∧ x < c)
  · rw [if_pos h, if_pos (by omega)]
  · rw [if_neg h, if_neg (by omega)]
/-- The numbers of the flip. -/
def flipZ (r c : Nat) (Z : Nat → Nat) (t : Nat) : Nat := Z (t % r * c + t / r)
theorem flip_end {r c : Nat} {Z : Nat → Nat} (t : Nat) (hr : 0 < r) : flipP r c r 0 Z t = flipZ r c Z t := by
  unfold flipP flipZ
  rw [if_pos (.inl (Nat.mod_lt _ hr))]

/-- A new matrix, told by its row. -/
def NewOwn (w : World) (R C : Int) (n : Nat) (Z : Nat → Nat) (e : Ending) (w' : World) : Prop :=
  ∃ g, e = .returned (.agg #[.int .i64 R, .int .i64 C, .slice (some ⟨g, 0, none⟩) n n]) ∧ Own 41 .f32 w.heap.size w'.heap.size w' (some ⟨g, 0, none⟩) n n Z ∧ Below w.heap.size w w'
set_option maxHeartbeats 2000000 in
theorem flipped_any (r c n b off cap : Nat) (Z : Nat → Nat) (w : World) (hr1 : 1 ≤ r) (hr : r ≤ 12) (hc1 : 1 ≤ c) (hc : c ≤ 12) (hn : n = r * c) (h : FS .f32 w (some ⟨b, off, none⟩) n cap Z) :
    Calls Try.prog 40 #[.agg #[.int .i64 r, .int .i64 c, .slice (some ⟨b, off, none⟩) n cap]] w (NewOwn w c r n (flipZ r c Z)) := by
  have hN := Lib.hid hn
  have hn144 : n ≤ 144 := by have := sides_le hr hc; omega
  have hcap := h.1
  have hmax : cap ≤ 9223372036854775807 := by have := h.2.1; unfold maxLen at this; omega
  have hnf : n = c * r := by rw [hn, Nat.mul_comm]
  have hNf := Lib.hid hnf
  clear hn hnf
  go_enter Try.func40, Try.ntmps40
  go_wp2_with fail
  go_at_call 41
  refine (newMatrix_any c r n _ hc hr hNf.out).mono ?_
  rintro e w1 ⟨g, rfl, o1, b1⟩
  have wk : Work (w.alloc (.cells #[.int .i64 r, .int .i64 c, .slice (some ⟨b, off, none⟩) n cap] 26)) (w.heap.size + 1 + 1) w1.heap.size g w1.heap.size (w.heap.size + 1) c r n (fun _ => 0) (w1.alloc (.cells #[.int .i64 c, .int .i64 r, .slice (some ⟨g, 0, none⟩) n n] 26)) := by
    have hh := Work.start (w := w.alloc (.cells #[.int .i64 r, .int .i64 c, .slice (some ⟨b, off, none⟩) n cap] 26)) (R := (c : Int)) (C := (r : Int)) 26 26 (Own.mono o1 (by simp) (Nat.le_refl _) (Nat.le_refl _)) b1
    simpa using hh
  have X0 := Box.new w 26 r c (some ⟨b, off, none⟩) n cap
  have F0 : FS .f32 (w.alloc (.cells #[.int .i64 r, .int .i64 c, .slice (some ⟨b, off, none⟩) n cap] 26)) (some ⟨b, off, none⟩) n cap Z := h.below (by repeat first | (with_reducible exact Below.refl _ _) | (with_reducible refine Below.setCell ?_ (by first | exact Nat.le_refl _ | (simp; done) | (simp; omega) | omega) _) | (with_reducible refine Below.alloc ?_ (by first | exact Nat.le_refl _ | (simp; done) | (simp; omega) | omega) _) | (with_reducible refine below_drewN ?_ _) | (with_reducible refine Below.drew ?_)) (Nat.le_refl _)
  have B0 : Below w.heap.size w (w.alloc (.cells #[.int .i64 r, .int .i64 c, .slice (some ⟨b, off, none⟩) n cap] 26)) := (by repeat first | (with_reducible exact Below.refl _ _) | (with_reducible refine Below.setCell ?_ (by first | exact Nat.le_refl _ | (simp; done) | (simp; omega) | omega) _) | (with_reducible refine Below.alloc ?_ (by first | exact Nat.le_refl _ | (simp; done) | (simp; omega) | omega) _) | (with_reducible refine below_drewN ?_ _) | (with_reducible refine Below.drew ?_))
  have hs0 : w.heap.size < (w.alloc (.cells #[.int .i64 r, .int .i64 c, .slice (some ⟨b, off, none⟩) n cap] 26)).heap.size := by simp
  generalize hw0 : w.alloc (.cells #[.int .i64 r, .int .i64 c, .slice (some ⟨b, off, none⟩) n cap] 26) = w0 at wk X0 F0 B0 hs0
  have PB := X0.below (w' := w1.alloc (.cells #[.int .i64 c, .int .i64 r, .slice (some ⟨g, 0, none⟩) n n] 26)) wk.bel hs0
  obtain ⟨p0, p1, p2⟩ := PB
  clear o1 b1 hw0
  go_wp2
  clear p0 p1 p2
  go_loopw [14] (fun i wr => ∃ j : Nat, j ≤ r ∧ i = .int .i64 j ∧ Work w0 (w.heap.size + 1 + 1) w1.heap.size g w1.heap.size (w.heap.size + 1) c r n (flipP r c j 0 Z) wr) (fun i _ => r - (intOf i).toNat)
  case atStart => exact ⟨0, Nat.zero_le _, rfl, wk.same (fun j _ => by unfold flipP; rw [if_neg (by rintro (hh | ⟨_, hh⟩) <;> exact Nat.not_lt_zero _ hh)])⟩
  case round =>
    obtain ⟨j, hj, rfl, hk⟩ := hrel
    clear wk
    have hpos : 0 < n := by rw [hN.out]; exact Nat.mul_pos hr1 hc1
    obtain ⟨g1, g2, g3, g4⟩ := hk.facts hpos
    by_cases hlt : j < r
    · obtain ⟨p0, p1, p2⟩ := X0.below hk.bel hs0
      go_wp2_with fail
      go_at_call 42
      refine (rowOf_any b off r c n cap j _ hr hc1 hc hN.out hcap hmax hlt).mono ?_
      rintro e w2 ⟨rfl, b2⟩
      have hk2 := hk.below b2 g3 g4
      clear hk b2 p0 p1 p2
      go_wp2
      go_loopw [21] (fun k wr => ∃ q : Nat, q ≤ c ∧ k = .int .i64 q ∧ Work w0 (w.heap.size + 1 + 1) w1.heap.size g w1.heap.size (w.heap.size + 1) c r n (flipP r c j q Z) wr) (fun k _ => c - (intOf k).toNat)
      case atStart => exact ⟨0, Nat.zero_le _, rfl, hk2⟩
      case round =>
        obtain ⟨q, hq, rfl, hk3⟩ := hrel
        clear hk2
        obtain ⟨g1', g2', g3', g4'⟩ := hk3.facts hpos
        by_cases hlt2 : q < c
        · have hpl := place_lt hlt2 hlt
          rw [← hNf.out] at hpl
          have hpz := place_lt hlt hlt2
          rw [← hN.out] at hpz
          obtain ⟨y0, y1, y2⟩ := hk3.box
          obtain ⟨b', off', e, hbl, hce, hfv⟩ := (F0.below hk3.bel (Nat.le_refl _)).at hpz
          simp only [Option.some.injEq, Addr.mk.injEq, and_true] at e
          obtain ⟨rfl, rfl⟩ := e
          rw [← Nat.add_assoc] at hce
          have hk' := Lib.hid hk3
          have hfv' := Lib.hid hfv.2
          clear hk3 hfv hbl
          go_wp2_with fail
          go_at_call 42
          refine (rowOf_any g 0 c r n n q _ hc hr1 hr hNf.out (Nat.le_refl _) (by omega) hlt2).mono ?_
          rintro e w3 ⟨rfl, b3⟩
          have hk4 := hk'.out.below b3 g3' g4'
          have hst := hk4.stored (t := q * r + j) (v := Z (j * c + q)) hpl hfv'.out
          obtain ⟨hce2, hfr, _⟩ := hk4.own.cell hpl
          have hst' := Lib.hid (hst.same (fun t _ => flip_step hlt t))
          simp only [Nat.zero_add] at *
          clear hst hk4 b3 hk' y0 y1 y2 hce
          go_wp2_with fail
          go_roundw
          case rel => exact ⟨q + 1, by omega, by go_num, hst'.out⟩
          case measure => simp [intOf]; omega
        · obtain rfl : q = c := by omega
          have hk' := Lib.hid (hk3.same (fun t ht => flip_next t (by rw [← hNf.out]; exact ht) hr1))
          clear hk3
          go_wp2
          go_roundw
          case rel => exact ⟨j + 1, by omega, by go_num, hk'.out⟩
          case measure => simp [intOf]; omega
    · obtain rfl : j = r := by omega
      obtain ⟨y0, y1, y2⟩ := hk.box
      obtain ⟨z0, z1, z2⟩ := hk.res
      have o2 := (hk.own).same (fun t _ => flip_end t hr1)
      have B2 := B0.trans (hk.bel.mono B0.size)
      have hlo := hk.lo
      have hmid := hk.mid
      have hice := hk.ice
      clear hk
      go_wp2_with fail
      refine bodyPost_ret (v := .agg #[.int .i64 c, .int .i64 j, .slice (some ⟨g, 0, none⟩) n n]) (by simp [results, Try.results40, go_sem, y0, y1, y2, z0, z1, z2]) rfl ?_
      exact ⟨_, rfl, (by refine Own.to o2 (hk := fun g hg1 hg2 => by (try simp at hg1 hg2); repeat (first | rw [Below.heap_setCell _ _ _ _ (by simp; omega)] | rw [Below.heap_alloc _ _ _ (by simp [World.setCell]; omega)])) ?_ ?_ ?_ ?_ <;> (first | exact Nat.le_refl _ | omega | (simp [World.setCell]; done) | (simp [World.setCell]; omega))), (by repeat first | (with_reducible exact B2) | (with_reducible refine Below.setCell ?_ (by first | exact Nat.le_refl _ | (simp; done) | (simp; omega) | omega) _) | (with_reducible refine Below.alloc ?_ (by first | exact Nat.le_refl _ | (simp; done) | (simp; omega) | omega) _) | (with_reducible refine below_drewN ?_ _) | (with_reducible refine Below.drew ?_))⟩

end Go.Proofs.Ytcibjkadlndejaa
